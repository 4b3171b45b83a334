/-
  Layer 1, the plain mathematics: numbers as bytes, and back. Nothing here speaks of a program.
-/
import Derived.Lib.ItoaNum
import Derived.Lib.AtoiAll
import Derived.Lib.Bytealg
import Derived.Test.YtphnimmhjnhajaaRows
import Derived.WalkKit
import Derived.Handy
import Derived.Laws.OwnMore
import Derived.Deep.Draws
import Derived.WalkSpells
import Derived.WalkLawsBesides
import Derived.Lib.Hide
import Derived.BigQuiet
import Derived.Deep.QuietTactic
import Derived.PlainAid
import Derived.Deep.LoopGhost
import Derived.Lib.AppendStr
import Derived.IntWalk
import Derived.Laws.RangeAny
import Derived.Laws.Cover4
import Derived.Lib.Join
import Derived.Deep.RegionLawGrows
namespace Go.Proofs.Ytphnimmhjnhajaa.V1

def digs : Nat → Nat → List UInt8
  | 0, n => [UInt8.ofNat n]
  | f + 1, n => if n < 128 then [UInt8.ofNat n] else UInt8.ofNat (n % 128 + 128) :: digs f (n / 128)

theorem digs_fuel : ∀ (f g n : Nat), n ≤ f → n ≤ g → digs f n = digs g n := by
  intro f
  induction f with
  | zero =>
    intro g n hf _
    obtain rfl : n = 0 := by omega
    cases g <;> simp [digs]
  | succ f ih =>
    intro g n hf hg
    cases g with
    | zero =>
      obtain rfl : n = 0 := by omega
      simp [digs]
    | succ g =>
      by_cases h : n < 128
      · simp [digs, h]
      · simp only [digs, if_neg h]
        rw [ih g (n / 128) (by omega) (by omega)]

/-- A1: the bytes of a number. -/
def natB (n : Nat) : List UInt8 := digs n n

theorem natB_small {n : Nat} (h : n < 128) : natB n = [UInt8.ofNat n] := by
  unfold natB
  cases n with
  | zero => rfl
  | succ k => simp [digs, h]

theorem natB_step {n : Nat} (h : 128 ≤ n) : natB n = UInt8.ofNat (n % 128 + 128) :: natB (n / 128) := by
  unfold natB
  cases n with
  | zero => omega
  | succ k =>
    simp only [digs, if_neg (show ¬ k + 1 < 128 by omega)]
    rw [digs_fuel k ((k + 1) / 128) ((k + 1) / 128) (by omega) (by omega)]

theorem natB_len : ∀ (k n : Nat), n < 128 ^ (k + 1) → (natB n).length ≤ k + 1 := by
  intro k
  induction k with
  | zero => intro n h; rw [natB_small (by simpa using h)]; simp
  | succ k ih =>
    intro n h
    by_cases hs : n < 128
    · rw [natB_small hs]; simp
    · rw [natB_step (by omega)]
      have : n / 128 < 128 ^ (k + 1) := by
        rw [Nat.div_lt_iff_lt_mul (by omega)]
        rw [Nat.pow_succ] at h
        exact h
      have := ih (n / 128) this
      simp; omega

theorem natB_len9 {n : Nat} (h : n ≤ 9223372036854775807) : (natB n).length ≤ 9 := natB_len 8 n (by simp; omega)

theorem natB_pos (n : Nat) : 0 < (natB n).length := by
  by_cases hs : n < 128
  · rw [natB_small hs]; simp
  · rw [natB_step (by omega)]; simp

/-- A2: the number at the head of a text, byte i being next, n what is read so far. -/
def tk : Nat → Nat → List UInt8 → Nat × List UInt8 × Int
  | _, _, [] => (0, [], 10)
  | i, n, b :: r =>
    if b.toNat < 128 then (if b.toNat = 0 ∧ 0 < i then (0, [], 11) else (n + b.toNat * 128 ^ i, r, 0))
    else if i = 8 then (0, [], 11) else tk (i + 1) (n + (b.toNat - 128) * 128 ^ i) r

def take (s : List UInt8) : Nat × List UInt8 × Int := tk 0 0 s

theorem tk_rest : ∀ (s : List UInt8) (i n : Nat), (tk i n s).2.1.length ≤ s.length := by
  intro s
  induction s with
  | nil => intro i n; simp [tk]
  | cons b r ih =>
    intro i n
    unfold tk
    by_cases h1 : b.toNat < 128
    · rw [if_pos h1]
      by_cases h2 : b.toNat = 0 ∧ 0 < i
      · rw [if_pos h2]; simp
      · rw [if_neg h2]; simp
    · rw [if_neg h1]
      by_cases h2 : i = 8
      · rw [if_pos h2]; simp
      · rw [if_neg h2]; have := ih (i + 1) (n + (b.toNat - 128) * 128 ^ i); simp; omega

theorem tk_err : ∀ (s : List UInt8) (i n : Nat), (tk i n s).2.2 ≠ 0 → (tk i n s).1 = 0 ∧ (tk i n s).2.1 = [] ∧ ((tk i n s).2.2 = 10 ∨ (tk i n s).2.2 = 11) := by
  intro s
  induction s with
  | nil => intro i n _; simp [tk]
  | cons b r ih =>
    intro i n
    unfold tk
    by_cases h1 : b.toNat < 128
    · rw [if_pos h1]
      by_cases h2 : b.toNat = 0 ∧ 0 < i
      · rw [if_pos h2]; simp
      · rw [if_neg h2]; simp
    · rw [if_neg h1]
      by_cases h2 : i = 8
      · rw [if_pos h2]; simp
      · rw [if_neg h2]; exact ih _ _

theorem tk_cases (s : List UInt8) (i n : Nat) : (tk i n s).2.2 = 0 ∨ ((tk i n s).1 = 0 ∧ (tk i n s).2.1 = [] ∧ ((tk i n s).2.2 = 10 ∨ (tk i n s).2.2 = 11)) := by
  by_cases h : (tk i n s).2.2 = 0
  · exact .inl h
  · exact .inr (tk_err s i n h)

theorem pow_sub (i : Nat) (h : i ≤ 8) : 128 ^ (9 - i) = 128 * 128 ^ (8 - i) := by
  rw [show 9 - i = (8 - i) + 1 by omega, Nat.pow_succ, Nat.mul_comm]

theorem pow_add' (i : Nat) (h : i ≤ 9) : 128 ^ (9 - i) * 128 ^ i = 9223372036854775808 := by
  rw [← Nat.pow_add, show 9 - i + i = 9 by omega]

theorem toNat_ofNat {n : Nat} (h : n < 256) : (UInt8.ofNat n).toNat = n := by
  simp; omega

/-- What was put is taken back. -/
theorem tk_put : ∀ (k i a m : Nat) (r : List UInt8), i + k = 9 → m < 128 ^ k → (i = 0 ∨ 0 < m) → 0 < k → tk i a (natB m ++ r) = (a + m * 128 ^ i, r, 0) := by
  intro k
  induction k with
  | zero => intro i a m r _ _ _ h; omega
  | succ k ih =>
    intro i a m r hi hm h0 _
    by_cases hs : m < 128
    · rw [natB_small hs]
      simp only [List.cons_append, List.nil_append]
      unfold tk
      rw [toNat_ofNat (by omega), if_pos hs, if_neg (by omega)]
    · rw [natB_step (by omega)]
      simp only [List.cons_append]
      unfold tk
      rw [toNat_ofNat (by omega), if_neg (by omega)]
      have hk : 0 < k := by
        rcases Nat.eq_zero_or_pos k with h | h
        · subst h; simp at hm; omega
        · exact h
      rw [if_neg (by omega)]
      rw [ih (i + 1) _ (m / 128) r (by omega) (by rw [Nat.div_lt_iff_lt_mul (by omega)]; rw [Nat.pow_succ] at hm; exact hm) (by omega) hk]
      have e : m % 128 * 128 ^ i + m / 128 * 128 ^ (i + 1) = m * 128 ^ i := by
        rw [Nat.pow_succ, show m / 128 * (128 ^ i * 128) = (128 * (m / 128)) * 128 ^ i by rw [Nat.mul_comm (128 ^ i) 128, ← Nat.mul_assoc, Nat.mul_comm (m / 128) 128], ← Nat.add_mul]
        congr 1; omega
      rw [show m % 128 + 128 - 128 = m % 128 by omega, Nat.add_assoc, e]

theorem take_put (m : Nat) (r : List UInt8) (h : m ≤ 9223372036854775807) : take (natB m ++ r) = (m, r, 0) := by
  unfold take
  rw [tk_put 9 0 0 m r (by omega) (by simp; omega) (.inl rfl) (by omega)]
  simp

/-- What is taken was put. -/
theorem tk_again : ∀ (s : List UInt8) (i a : Nat), i ≤ 8 → (tk i a s).2.2 = 0 → ∃ m, (tk i a s).1 = a + m * 128 ^ i ∧ s = natB m ++ (tk i a s).2.1 ∧ (i = 0 ∨ 0 < m) ∧ m < 128 ^ (9 - i) := by
  intro s
  induction s with
  | nil => intro i a _ h; simp [tk] at h
  | cons b r ih =>
    intro i a hi h
    have hb : b.toNat < 256 := b.toNat_lt
    unfold tk at h ⊢
    by_cases h1 : b.toNat < 128
    · rw [if_pos h1] at h ⊢
      by_cases h2 : b.toNat = 0 ∧ 0 < i
      · rw [if_pos h2] at h; simp at h
      · rw [if_neg h2]
        refine ⟨b.toNat, rfl, ?_, by omega, ?_⟩
        · rw [natB_small h1]; simp
        · rw [pow_sub i hi]
          have : 1 ≤ 128 ^ (8 - i) := Nat.one_le_pow _ _ (by omega)
          omega
    · rw [if_neg h1] at h ⊢
      by_cases h2 : i = 8
      · rw [if_pos h2] at h; simp at h
      · rw [if_neg h2] at h ⊢
        obtain ⟨m, e1, e2, e3, e4⟩ := ih (i + 1) _ (by omega) h
        refine ⟨(b.toNat - 128) + 128 * m, ?_, ?_, .inr (by omega), ?_⟩
        · rw [e1, Nat.pow_succ, Nat.add_mul, Nat.add_assoc]
          congr 2
          rw [Nat.mul_comm 128 m, Nat.mul_assoc, Nat.mul_comm 128]
        · have hm : 0 < m := by omega
          rw [natB_step (by omega)]
          rw [show (b.toNat - 128 + 128 * m) % 128 + 128 = b.toNat by omega, show (b.toNat - 128 + 128 * m) / 128 = m by omega]
          simp only [List.cons_append, UInt8.ofNat_toNat, List.cons.injEq, true_and]
          exact e2
        · rw [pow_sub i hi]
          rw [show 9 - (i + 1) = 8 - i by omega] at e4
          omega

theorem take_again (s : List UInt8) (h : (take s).2.2 = 0) : s = natB (take s).1 ++ (take s).2.1 ∧ (take s).1 ≤ 9223372036854775807 := by
  obtain ⟨m, e1, e2, _, e4⟩ := tk_again s 0 0 (by omega) h
  have e : (take s).1 = m := by unfold take; rw [e1]; simp
  rw [e]
  exact ⟨e2, by simp at e4; omega⟩

theorem take_lt (s : List UInt8) : (take s).1 ≤ 9223372036854775807 := by
  by_cases h : (take s).2.2 = 0
  · exact (take_again s h).2
  · have := (tk_err s 0 0 h).1
    unfold take; omega

/-- Cut anywhere it is too short. -/
theorem tk_cut : ∀ (k i a m j : Nat), i + k = 9 → m < 128 ^ k → j < (natB m).length → tk i a ((natB m).take j) = (0, [], 10) := by
  intro k
  induction k with
  | zero =>
    intro i a m j hi hm hj
    have : m = 0 := by simp at hm; exact hm
    subst this
    rw [natB_small (by omega)] at hj
    simp at hj; subst hj; simp [tk]
  | succ k ih =>
    intro i a m j hi hm hj
    by_cases hs : m < 128
    · rw [natB_small hs] at hj
      simp at hj; subst hj; simp [tk]
    · rw [natB_step (by omega)] at hj ⊢
      cases j with
      | zero => simp [tk]
      | succ j =>
        simp only [List.take_succ_cons]
        unfold tk
        rw [toNat_ofNat (by omega), if_neg (by omega)]
        have hk : 0 < k := by
          rcases Nat.eq_zero_or_pos k with h | h
          · subst h; simp at hm; omega
          · exact h
        rw [if_neg (by omega)]
        exact ih (i + 1) _ (m / 128) j (by omega) (by rw [Nat.div_lt_iff_lt_mul (by omega)]; rw [Nat.pow_succ] at hm; exact hm) (by simpa using hj)

theorem take_cut (m j : Nat) (h : m ≤ 9223372036854775807) (hj : j < (natB m).length) : take ((natB m).take j) = (0, [], 10) :=
  tk_cut 9 0 0 m j (by omega) (by simp; omega) hj

/-- A4. -/
def bytesB (t : List UInt8) : List UInt8 := natB t.length ++ t

def takeBytes (s : List UInt8) : List UInt8 × List UInt8 × Int :=
  if (take s).2.2 ≠ 0 then ([], [], (take s).2.2)
  else if (take s).2.1.length < (take s).1 then ([], [], 10)
  else ((take s).2.1.take (take s).1, (take s).2.1.drop (take s).1, 0)

/-- A3: the number that is put for a number with a sign, and back. -/
def zig (n : Int) : Nat := if n < 0 then (-2 * n - 1).toNat else (2 * n).toNat
def zag (m : Nat) : Int := if m % 2 = 1 then -((m / 2 : Nat) : Int) - 1 else ((m / 2 : Nat) : Int)
theorem zag_zig (n : Int) : zag (zig n) = n := by
  unfold zig zag
  split <;> split <;> omega
theorem zig_zag (m : Nat) : zig (zag m) = m := by
  unfold zig zag
  split <;> split <;> omega

/-- A5. -/
def listB (l : List Nat) : List UInt8 := natB l.length ++ (l.map natB).flatten

def takeMany : Nat → List UInt8 → List Nat → List Nat × List UInt8 × Int
  | 0, s, acc => (acc, s, 0)
  | k + 1, s, acc => if (take s).2.2 ≠ 0 then ([], [], (take s).2.2) else takeMany k (take s).2.1 (acc ++ [(take s).1])

def takeNats (s : List UInt8) : List Nat × List UInt8 × Int :=
  if (take s).2.2 ≠ 0 then ([], [], (take s).2.2)
  else if (take s).2.1.length < (take s).1 then ([], [], 10)
  else takeMany (take s).1 (take s).2.1 []

theorem takeMany_put : ∀ (l acc : List Nat) (r : List UInt8), (∀ n ∈ l, n ≤ 9223372036854775807) → takeMany l.length ((l.map natB).flatten ++ r) acc = (acc ++ l, r, 0) := by
  intro l
  induction l with
  | nil => intro acc r _; simp [takeMany]
  | cons n l ih =>
    intro acc r h
    simp only [List.length_cons, List.map_cons, List.flatten_cons, List.append_assoc, takeMany]
    rw [take_put n _ (h n (by simp))]
    simp only [ne_eq, not_true_eq_false, if_false]
    rw [ih (acc ++ [n]) r (fun m hm => h m (by simp [hm]))]
    simp

theorem flat_len : ∀ (l : List Nat), l.length ≤ ((l.map natB).flatten).length := by
  intro l
  induction l with
  | nil => simp
  | cons n l ih => have := natB_pos n; simp at ih ⊢; omega

theorem takeNats_put (l : List Nat) (r : List UInt8) (h : ∀ n ∈ l, n ≤ 9223372036854775807) (hl : l.length ≤ 9223372036854775807) : takeNats (listB l ++ r) = (l, r, 0) := by
  unfold takeNats listB
  rw [List.append_assoc, take_put _ _ hl]
  simp only [ne_eq, not_true_eq_false, if_false]
  rw [if_neg (by have := flat_len l; simp at this ⊢; omega), takeMany_put l [] r h]
  simp

theorem takeMany_again : ∀ (k : Nat) (s : List UInt8) (acc : List Nat), (takeMany k s acc).2.2 = 0 →
    ∃ l : List Nat, l.length = k ∧ (takeMany k s acc).1 = acc ++ l ∧ s = (l.map natB).flatten ++ (takeMany k s acc).2.1 ∧ ∀ n ∈ l, n ≤ 9223372036854775807 := by
  intro k
  induction k with
  | zero => intro s acc _; exact ⟨[], by simp [takeMany]⟩
  | succ k ih =>
    intro s acc h
    unfold takeMany at h ⊢
    by_cases h1 : (take s).2.2 ≠ 0
    · rw [if_pos h1] at h; exact absurd h h1
    · rw [if_neg h1] at h ⊢
      have h0 : (take s).2.2 = 0 := by simpa using h1
      obtain ⟨l, e1, e2, e3, e4⟩ := ih _ _ h
      obtain ⟨a1, a2⟩ := take_again s h0
      refine ⟨(take s).1 :: l, by simp [e1], by rw [e2]; simp, ?_, ?_⟩
      · simp only [List.map_cons, List.flatten_cons, List.append_assoc]
        rw [← e3]; exact a1
      · intro n hn
        rcases List.mem_cons.1 hn with rfl | hn
        · exact a2
        · exact e4 n hn

theorem takeNats_again (s : List UInt8) (h : (takeNats s).2.2 = 0) : s = listB (takeNats s).1 ++ (takeNats s).2.1 ∧ ∀ n ∈ (takeNats s).1, n ≤ 9223372036854775807 := by
  unfold takeNats at h ⊢
  by_cases h1 : (take s).2.2 ≠ 0
  · rw [if_pos h1] at h; exact absurd h h1
  · rw [if_neg h1] at h ⊢
    have h0 : (take s).2.2 = 0 := by simpa using h1
    by_cases h2 : (take s).2.1.length < (take s).1
    · rw [if_pos h2] at h; simp at h
    · rw [if_neg h2] at h ⊢
      obtain ⟨l, e1, e2, e3, e4⟩ := takeMany_again _ _ _ h
      obtain ⟨a1, a2⟩ := take_again s h0
      rw [List.nil_append] at e2
      rw [e2]
      refine ⟨?_, e4⟩
      unfold listB
      rw [e1, List.append_assoc, ← e3]
      exact a1

theorem takeBytes_put (t r : List UInt8) (h : t.length ≤ 9223372036854775807) : takeBytes (bytesB t ++ r) = (t, r, 0) := by
  unfold takeBytes bytesB
  rw [List.append_assoc, take_put _ _ h]
  simp

theorem takeBytes_again (s : List UInt8) (h : (takeBytes s).2.2 = 0) : s = bytesB (takeBytes s).1 ++ (takeBytes s).2.1 := by
  unfold takeBytes at h ⊢
  by_cases h1 : (take s).2.2 ≠ 0
  · rw [if_pos h1] at h; exact absurd h h1
  · rw [if_neg h1] at h ⊢
    have h0 : (take s).2.2 = 0 := by simpa using h1
    by_cases h2 : (take s).2.1.length < (take s).1
    · rw [if_pos h2] at h; simp at h
    · rw [if_neg h2]
      obtain ⟨a1, a2⟩ := take_again s h0
      unfold bytesB
      simp only [List.length_take, List.append_assoc, List.take_append_drop]
      rw [show min (take s).1 (take s).2.1.length = (take s).1 by omega]
      exact a1

theorem takeBytes_cut (t : List UInt8) (j : Nat) (h : t.length ≤ 9223372036854775807) (hj : j < (bytesB t).length) : takeBytes ((bytesB t).take j) = ([], [], 10) := by
  unfold bytesB at hj ⊢
  unfold takeBytes
  by_cases h1 : j < (natB t.length).length
  · rw [List.take_append_of_le_length (by omega), take_cut _ _ h h1]
    simp
  · rw [show (natB t.length ++ t).take j = natB t.length ++ t.take (j - (natB t.length).length) by
      rw [List.take_append]; congr 1; exact List.take_of_length_le (by omega)]
    rw [take_put _ _ h]
    simp only [List.length_append] at hj
    simp
    omega

end Go.Proofs.Ytphnimmhjnhajaa.V1

/-
  Layer 8, plain mathematics: what is put and taken back, by parts; groups and their bytes. Nothing here speaks of a program.
-/
namespace Go.Proofs.Ytphnimmhjnhajaa.M8
open V1
set_option linter.unusedVariables false

abbrev Bytes := List UInt8
/-- A taking: what it is, and what is left. -/
abbrev P (α : Type) := Bytes → Option (α × Bytes)
/-- What is put is taken back, whatever stands behind; what is taken was put so. -/
structure Codec {α : Type} (p : P α) (e : α → Bytes) (dom : α → Prop) : Prop where
  put : ∀ a r, dom a → p (e a ++ r) = some (a, r)
  again : ∀ s a r, p s = some (a, r) → s = e a ++ r ∧ dom a
/-- One taking, and by what it gave another one. -/
def pBind {α β : Type} (p : P α) (q : α → P β) : P β := fun s => match p s with | none => none | some (a, r) => q a r
def pMap {α β : Type} (f : α → β) (p : P α) : P β := fun s => match p s with | none => none | some (a, r) => some (f a, r)
def pFail {α : Type} : P α := fun _ => none
theorem pBind_none {α β : Type} {p : P α} {q : α → P β} {s : Bytes} (h : p s = none) : pBind p q s = none := by unfold pBind; rw [h]
theorem pBind_some {α β : Type} {p : P α} {q : α → P β} {s r : Bytes} {a : α} (h : p s = some (a, r)) : pBind p q s = q a r := by unfold pBind; rw [h]
theorem pMap_none {α β : Type} {p : P α} {f : α → β} {s : Bytes} (h : p s = none) : pMap f p s = none := by unfold pMap; rw [h]
theorem pMap_some {α β : Type} {p : P α} {f : α → β} {s r : Bytes} {a : α} (h : p s = some (a, r)) : pMap f p s = some (f a, r) := by unfold pMap; rw [h]
theorem pBind_inv {α β : Type} {p : P α} {q : α → P β} {s r : Bytes} {b : β} (h : pBind p q s = some (b, r)) : ∃ a t, p s = some (a, t) ∧ q a t = some (b, r) := by
  unfold pBind at h
  cases hp : p s with
  | none => rw [hp] at h; cases h
  | some x => obtain ⟨a, t⟩ := x; rw [hp] at h; exact ⟨a, t, rfl, h⟩
theorem pMap_inv {α β : Type} {p : P α} {f : α → β} {s r : Bytes} {b : β} (h : pMap f p s = some (b, r)) : ∃ a, p s = some (a, r) ∧ b = f a := by
  unfold pMap at h
  cases hp : p s with
  | none => rw [hp] at h; cases h
  | some x => obtain ⟨a, t⟩ := x; rw [hp] at h; injection h with h; injection h with h1 h2; subst h1; subst h2; exact ⟨a, rfl, rfl⟩

/-- A pair: the second by the first. -/
theorem Codec.pair {α β : Type} {p : P α} {e : α → Bytes} {dom : α → Prop} {q : α → P β} {e' : α → β → Bytes} {dom' : α → β → Prop} (h : Codec p e dom) (h' : ∀ a, dom a → Codec (q a) (e' a) (dom' a)) :
    Codec (pBind p fun a => pMap (fun b => (a, b)) (q a)) (fun x => e x.1 ++ e' x.1 x.2) (fun x => dom x.1 ∧ dom' x.1 x.2) := by
  constructor
  · rintro ⟨a, b⟩ r ⟨h1, h2⟩
    rw [List.append_assoc, pBind_some (h.put a _ h1), pMap_some ((h' a h1).put b r h2)]
  · intro s x r hs
    obtain ⟨a, t, h1, h2⟩ := pBind_inv hs
    obtain ⟨b, h3, rfl⟩ := pMap_inv h2
    obtain ⟨rfl, hd⟩ := h.again s a t h1
    obtain ⟨rfl, hd'⟩ := (h' a hd).again t b r h3
    exact ⟨by simp, hd, hd'⟩
/-- The same, put another way. -/
theorem Codec.iso {α β : Type} {p : P α} {e : α → Bytes} {dom : α → Prop} (h : Codec p e dom) (f : α → β) (g : β → α) {dom' : β → Prop} (hd : ∀ b, dom' b → dom (g b) ∧ f (g b) = b) (hd' : ∀ a, dom a → dom' (f a) ∧ g (f a) = a) :
    Codec (pMap f p) (fun b => e (g b)) dom' := by
  constructor
  · intro b r hb
    rw [pMap_some (h.put (g b) r (hd b hb).1), (hd b hb).2]
  · intro s b r hs
    obtain ⟨a, h1, rfl⟩ := pMap_inv hs
    obtain ⟨rfl, ha⟩ := h.again s a r h1
    exact ⟨by rw [(hd' a ha).2], (hd' a ha).1⟩
/-- So many. -/
def pMany {α : Type} (p : P α) : Nat → P (List α)
  | 0 => fun s => some ([], s)
  | n + 1 => pBind p fun a => pMap (a :: ·) (pMany p n)
def flatE {α : Type} (e : α → Bytes) (l : List α) : Bytes := l.flatMap e
theorem Codec.many {α : Type} {p : P α} {e : α → Bytes} {dom : α → Prop} (h : Codec p e dom) : ∀ n, Codec (pMany p n) (flatE e) (fun l => l.length = n ∧ ∀ a ∈ l, dom a) := by
  intro n
  induction n with
  | zero =>
    constructor
    · rintro a r ⟨h1, _⟩
      obtain rfl := List.length_eq_zero_iff.1 h1
      rfl
    · intro s a r hs
      injection hs with hs; injection hs with h1 h2
      subst h1; subst h2
      exact ⟨rfl, rfl, by simp⟩
  | succ n ih =>
    constructor
    · rintro l r ⟨h1, h2⟩
      cases l with
      | nil => simp at h1
      | cons a l =>
        show pBind p _ (flatE e (a :: l) ++ r) = _
        have : flatE e (a :: l) ++ r = e a ++ (flatE e l ++ r) := by simp [flatE]
        rw [this, pBind_some (h.put a _ (h2 a (by simp))), pMap_some (ih.put l r ⟨by simpa using h1, fun b hb => h2 b (by simp [hb])⟩)]
    · intro s l r hs
      obtain ⟨a, t, h1, h2⟩ := pBind_inv hs
      obtain ⟨l', h3, rfl⟩ := pMap_inv h2
      obtain ⟨rfl, hd⟩ := h.again s a t h1
      obtain ⟨rfl, hl, hd'⟩ := ih.again t l' r h3
      refine ⟨by simp [flatE], by simp [hl], fun b hb => ?_⟩
      rcases List.mem_cons.1 hb with rfl | hb
      · exact hd
      · exact hd' b hb
/-- No beginning of what is put is a whole. -/
theorem Codec.cut {α : Type} {p : P α} {e : α → Bytes} {dom : α → Prop} (h : Codec p e dom) {a b : α} {s q : Bytes} (ha : p (s ++ q) = some (a, [])) (hb : p s = some (b, [])) : q = [] := by
  obtain ⟨h1, h2⟩ := h.again _ _ _ hb
  have h3 := h.put b q h2
  rw [List.append_nil] at h1
  rw [← h1, ha] at h3
  injection h3 with h3; injection h3 with _ h4
  exact h4.symm

/-! ### Numbers and texts -/
def pNat : P Int := fun s => if (take s).2.2 = 0 then some (((take s).1 : Int), (take s).2.1) else none
def natE (n : Int) : Bytes := natB n.toNat
def natD (n : Int) : Prop := 0 ≤ n ∧ n ≤ 9223372036854775807
theorem cNat : Codec pNat natE natD := by
  constructor
  · rintro n r ⟨h0, h1⟩
    unfold pNat natE
    rw [take_put _ _ (by omega)]
    simp only [if_true]
    rw [show ((n.toNat : Nat) : Int) = n by omega]
  · intro s a r hs
    unfold pNat at hs
    split at hs
    · rename_i h0
      injection hs with hs; injection hs with h1 h2
      obtain ⟨h3, h4⟩ := take_again s h0
      rw [h2] at h3
      refine ⟨?_, by unfold natD; omega⟩
      unfold natE
      rw [← h1, Int.toNat_natCast]
      exact h3
    · cases hs
def pText : P Bytes := fun s => if (takeBytes s).2.2 = 0 then some ((takeBytes s).1, (takeBytes s).2.1) else none
theorem takeBytes_le (s : Bytes) : (takeBytes s).1.length ≤ 9223372036854775807 := by
  unfold takeBytes
  split
  · simp
  · split
    · simp
    · have := take_lt s
      simp only [List.length_take]
      omega
theorem cText : Codec pText bytesB (fun t => t.length ≤ 9223372036854775807) := by
  constructor
  · intro t r h
    unfold pText
    rw [takeBytes_put t r h]
    rfl
  · intro s t r hs
    unfold pText at hs
    split at hs
    · rename_i h0
      injection hs with hs; injection hs with h1 h2
      have h3 := takeBytes_again s h0
      have h4 := takeBytes_le s
      rw [h1, h2] at h3
      rw [h1] at h4
      exact ⟨h3, h4⟩
    · cases hs
def pNats : P (List Int) := fun s => if (takeNats s).2.2 = 0 then some ((takeNats s).1.map (fun (n : Nat) => (n : Int)), (takeNats s).2.1) else none
def natsE (l : List Int) : Bytes := listB (l.map Int.toNat)
theorem map_back {l : List Int} (h : ∀ n ∈ l, 0 ≤ n) : (l.map Int.toNat).map (fun (n : Nat) => (n : Int)) = l := by
  induction l with
  | nil => rfl
  | cons a l ih =>
    rw [List.map_cons, List.map_cons, ih (fun n hn => h n (by simp [hn]))]
    have := h a (by simp)
    rw [show ((a.toNat : Nat) : Int) = a by omega]
theorem takeNats_len (s : Bytes) : (takeNats s).1.length ≤ 9223372036854775807 := by
  by_cases h : (takeNats s).2.2 = 0
  · unfold takeNats at h ⊢
    by_cases h1 : (take s).2.2 ≠ 0
    · rw [if_pos h1]; simp
    · rw [if_neg h1] at h ⊢
      by_cases h2 : (take s).2.1.length < (take s).1
      · rw [if_pos h2]; simp
      · rw [if_neg h2] at h ⊢
        obtain ⟨l, e1, e2, _, _⟩ := takeMany_again _ _ _ h
        rw [List.nil_append] at e2
        rw [e2, e1]
        exact take_lt s
  · have : ∀ (k : Nat) (s : Bytes) (acc : List Nat), (takeMany k s acc).2.2 ≠ 0 → (takeMany k s acc).1 = [] := by
      intro k
      induction k with
      | zero => intro s acc h; exact absurd rfl h
      | succ k ih =>
        intro s acc h
        unfold takeMany at h ⊢
        by_cases h1 : (take s).2.2 ≠ 0
        · rw [if_pos h1]
        · rw [if_neg h1] at h ⊢; exact ih _ _ h
    unfold takeNats at h ⊢
    by_cases h1 : (take s).2.2 ≠ 0
    · rw [if_pos h1]; simp
    · rw [if_neg h1] at h ⊢
      by_cases h2 : (take s).2.1.length < (take s).1
      · rw [if_pos h2]; simp
      · rw [if_neg h2] at h ⊢
        rw [this _ _ _ h]; simp
theorem cNats : Codec pNats natsE (fun l => l.length ≤ 9223372036854775807 ∧ ∀ n ∈ l, natD n) := by
  constructor
  · rintro l r ⟨h1, h2⟩
    unfold pNats natsE
    rw [takeNats_put (l.map Int.toNat) r (fun n hn => by obtain ⟨z, hz, rfl⟩ := List.mem_map.1 hn; have := h2 z hz; unfold natD at this; omega) (by simpa using h1)]
    simp only [if_true]
    rw [map_back (fun n hn => (h2 n hn).1)]
  · intro s l r hs
    unfold pNats at hs
    split at hs
    · rename_i h0
      injection hs with hs; injection hs with h1 h2
      obtain ⟨h3, h4⟩ := takeNats_again s h0
      have h5 := takeNats_len s
      subst h1
      rw [h2] at h3
      refine ⟨?_, by simpa using h5, fun n hn => ?_⟩
      · unfold natsE
        rw [List.map_map]
        have : (takeNats s).1.map (Int.toNat ∘ fun (n : Nat) => (n : Int)) = (takeNats s).1 := by
          conv => rhs; rw [← List.map_id (takeNats s).1]
          exact List.map_congr_left fun n _ => by simp
        rw [this]; exact h3
      · obtain ⟨m, hm, rfl⟩ := List.mem_map.1 hn
        have := h4 m hm
        unfold natD; omega
    · cases hs

end Go.Proofs.Ytphnimmhjnhajaa.M8

/-
  Layer 5, plain mathematics: decimal texts, ids, pieces between points. Nothing here speaks of a program.
-/
namespace Go.Proofs.Ytphnimmhjnhajaa.M5
open Go.Lib
set_option linter.unusedVariables false

/-- A byte that is a digit. -/
def dig (c : UInt8) : Bool := decide (48 ≤ c.toNat ∧ c.toNat ≤ 57)
theorem dig_iff {c : UInt8} : dig c = true ↔ 48 ≤ c.toNat ∧ c.toNat ≤ 57 := by simp [dig]
def val (l : List UInt8) : Nat := l.foldl (fun a c => a * 10 + (c.toNat - 48)) 0
theorem val_snoc (l : List UInt8) (c : UInt8) : val (l ++ [c]) = val l * 10 + (c.toNat - 48) := by simp [val]

theorem byte48 {k : Nat} (h : k < 10) : (UInt8.ofNat (48 + k)).toNat = 48 + k := by
  rw [UInt8.toNat_ofNat']; omega
theorem decDigits_big {u : Nat} (h : ¬ u < 10) : decDigits u = decDigits (u / 10) ++ [UInt8.ofNat (48 + u % 10)] := by rw [decDigits, dif_neg h]

theorem dec_dig (u : Nat) : ∀ c ∈ decDigits u, dig c = true := by
  induction u using Nat.strongRecOn with
  | _ u ih =>
    by_cases h : u < 10
    · rw [decDigits_one h]
      intro c hc
      obtain rfl := List.mem_singleton.1 hc
      rw [dig_iff, byte48 h]; omega
    · rw [decDigits_big h]
      intro c hc
      rcases List.mem_append.1 hc with hc | hc
      · exact ih (u / 10) (by omega) c hc
      · obtain rfl := List.mem_singleton.1 hc
        rw [dig_iff, byte48 (Nat.mod_lt _ (by omega))]; omega
theorem dec_val (u : Nat) : val (decDigits u) = u := by
  induction u using Nat.strongRecOn with
  | _ u ih =>
    by_cases h : u < 10
    · rw [decDigits_one h]
      simp only [val, List.foldl_cons, List.foldl_nil]
      rw [byte48 h]; omega
    · rw [decDigits_big h, val_snoc, ih (u / 10) (by omega), byte48 (Nat.mod_lt _ (by omega))]
      omega
theorem dec_ne (u : Nat) : decDigits u ≠ [] := by
  intro h
  have := decDigits_length u
  have := nDigits_pos u
  rw [h] at *; simp at *; omega
/-- No nought stands ahead of others. -/
theorem dec_head (u : Nat) (hu : u ≠ 0) : (decDigits u).head?.map (·.toNat) ≠ some 48 := by
  induction u using Nat.strongRecOn with
  | _ u ih =>
    by_cases h : u < 10
    · rw [decDigits_one h]
      simp only [List.head?_cons, Option.map_some, ne_eq, Option.some.injEq]
      rw [byte48 h]; omega
    · rw [decDigits_big h]
      have hne := dec_ne (u / 10)
      have := ih (u / 10) (by omega) (by omega)
      cases hd : decDigits (u / 10) with
      | nil => exact absurd hd hne
      | cons a b => rw [hd] at this; simpa using this
/-- The numeral of what digits spell, if no nought stands ahead of others. -/
theorem dec_of_val : ∀ (n : Nat) (l : List UInt8), l.length = n → l ≠ [] → (∀ c ∈ l, dig c = true) → (l.head?.map (·.toNat) = some 48 → l.length = 1) → decDigits (val l) = l := by
  intro n
  induction n with
  | zero => intro l hl hne; exact absurd (List.eq_nil_of_length_eq_zero hl) hne
  | succ n ih =>
    intro l hl hne hd hh
    obtain ⟨d, c, rfl⟩ : ∃ d c, l = d ++ [c] := ⟨l.dropLast, l.getLast hne, (List.dropLast_concat_getLast hne).symm⟩
    have hc := dig_iff.1 (hd c (by simp))
    rw [val_snoc]
    have hcb : UInt8.ofNat (48 + (c.toNat - 48)) = c := by
      apply UInt8.toNat_inj.1
      rw [byte48 (by omega)]; omega
    by_cases hd0 : d = []
    · subst hd0
      have : val [] = 0 := rfl
      rw [this, decDigits_one (by omega), show 48 + (0 * 10 + (c.toNat - 48)) = 48 + (c.toNat - 48) by omega, hcb]
      rfl
    · have hl' : d.length = n := by simp at hl; omega
      have hdig : ∀ c ∈ d, dig c = true := fun c hc => hd c (by simp [hc])
      obtain ⟨a, b, rfl⟩ := List.exists_cons_of_ne_nil hd0
      have ha : a.toNat ≠ 48 := by
        intro h
        have := hh (by simp [h])
        simp at this
      have h1 := ih (a :: b) hl' (by simp) hdig (by simp [ha])
      have hpos : 1 ≤ val (a :: b) := by
        rcases Nat.eq_zero_or_pos (val (a :: b)) with h0 | h0
        · rw [h0, decDigits_one (by omega)] at h1
          injection h1 with h2 h3
          exfalso; apply ha; rw [← h2, byte48 (by omega)]
        · exact h0
      rw [decDigits_big (by omega), show (val (a :: b) * 10 + (c.toNat - 48)) / 10 = val (a :: b) by omega, show (val (a :: b) * 10 + (c.toNat - 48)) % 10 = c.toNat - 48 by omega, h1, hcb]
theorem dec_inj {a b : Nat} (h : decDigits a = decDigits b) : a = b := by rw [← dec_val a, h, dec_val]
theorem dec_len {u k : Nat} (hk : 1 ≤ k) (h : u < 10 ^ k) : (decDigits u).length ≤ k := by
  induction k generalizing u with
  | zero => omega
  | succ k ih =>
    by_cases h10 : u < 10
    · rw [decDigits_one h10]; simp
    · rw [decDigits_big h10]
      rcases Nat.eq_zero_or_pos k with rfl | hk0
      · simp at h; omega
      · have := ih (u := u / 10) hk0 (by rw [Nat.pow_succ] at h; omega)
        simp; omega

/-! ### Atoi of a numeral -/
theorem parseUint_dig : ∀ (l : List UInt8) (acc : Nat), (∀ c ∈ l, dig c = true) → l.foldl (fun a c => a * 10 + (c.toNat - 48)) acc < 1000000000000000000 → parseUint10 acc l = .ok (l.foldl (fun a c => a * 10 + (c.toNat - 48)) acc) := by
  intro l
  induction l with
  | nil => intro acc _ _; rfl
  | cons c r ih =>
    intro acc hd hlt
    have hmono : ∀ (r : List UInt8) (a : Nat), a ≤ r.foldl (fun a c => a * 10 + (c.toNat - 48)) a := by
      intro r
      induction r with
      | nil => intro a; exact Nat.le_refl _
      | cons c r ih => intro a; exact Nat.le_trans (show a ≤ a * 10 + (c.toNat - 48) by omega) (ih _)
    have h1 := hmono r (acc * 10 + (c.toNat - 48))
    simp only [List.foldl_cons] at hlt ⊢
    simp only [parseUint10]
    rw [if_pos (dig_iff.1 (hd c (by simp))), if_neg (by omega), if_neg (by omega)]
    exact ih _ (fun c hc => hd c (by simp [hc])) hlt
theorem atoi_dec (u : Nat) (hu : u < 1000000000000000000) : atoiAll (decDigits u) = .ok (u : Int) := by
  have hd := dec_dig u
  have hv := dec_val u
  have hne := dec_ne u
  cases hl : decDigits u with
  | nil => exact absurd hl hne
  | cons c r =>
    rw [hl] at hd hv
    have hc := dig_iff.1 (hd c (by simp))
    have hp := parseUint_dig (c :: r) 0 hd (by show val (c :: r) < _; rw [hv]; exact hu)
    have hp2 : parseMag (c :: r) = .ok u := by
      unfold parseMag
      rw [if_neg (by simp), hp]
      congr 1
    unfold atoiAll
    simp only
    rw [if_neg (by omega), hp2]
    simp only
    rw [if_neg (by omega), if_neg (by omega), if_neg (by omega)]

/-! ### Ids and their texts -/
def right (t r : Int) : Bool := decide (1 ≤ t ∧ t ≤ 1099511627776 ∧ 1 ≤ r ∧ r ≤ 16)
def rightId (t r i : Int) : Bool := decide (1 ≤ t ∧ t ≤ 1099511627776 ∧ 1 ≤ r ∧ r ≤ 16 ∧ 0 ≤ i ∧ i ≤ 400000)
theorem right_iff {t r : Int} : right t r = true ↔ 1 ≤ t ∧ t ≤ 1099511627776 ∧ 1 ≤ r ∧ r ≤ 16 := by simp [right]
theorem rightId_iff {t r i : Int} : rightId t r i = true ↔ 1 ≤ t ∧ t ≤ 1099511627776 ∧ 1 ≤ r ∧ r ≤ 16 ∧ 0 ≤ i ∧ i ≤ 400000 := by simp [rightId]
def idText (t r i : Nat) : List UInt8 := decDigits t ++ 46 :: (decDigits r ++ 46 :: decDigits i)
def textR (t r i : Int) : List UInt8 := if rightId t r i = true then idText t.toNat r.toNat i.toNat else []
theorem textR_right {t r i : Int} (h : rightId t r i = true) : textR t r i = idText t.toNat r.toNat i.toNat := by unfold textR; rw [if_pos h]
theorem textR_wrong {t r i : Int} (h : rightId t r i = false) : textR t r i = [] := by unfold textR; rw [if_neg (by simp [h])]
theorem idText_ne (t r i : Nat) : idText t r i ≠ [] := by
  unfold idText
  cases h : decDigits t with
  | nil => exact absurd h (dec_ne t)
  | cons a b => simp
theorem idText_len {t r i : Nat} (ht : t ≤ 1099511627776) (hr : r ≤ 16) (hi : i ≤ 400000) : (idText t r i).length ≤ 23 := by
  have h1 := dec_len (u := t) (k := 13) (by omega) (by omega)
  have h2 := dec_len (u := r) (k := 2) (by omega) (by omega)
  have h3 := dec_len (u := i) (k := 6) (by omega) (by omega)
  unfold idText
  simp only [List.length_append, List.length_cons]; omega

/-! ### Pieces between points -/
/-- What stands ahead of the first point, and behind it. -/
def cut : List UInt8 → Option (List UInt8 × List UInt8)
  | [] => none
  | c :: r => if c == 46 then some ([], r) else (cut r).map fun p => (c :: p.1, p.2)
theorem cut_index : ∀ (l : List UInt8), (cut l = none ∧ indexByte l 46 = -1) ∨ ∃ m : Nat, indexByte l 46 = (m : Int) ∧ m < l.length ∧ cut l = some (l.take m, l.drop (m + 1)) := by
  intro l
  induction l with
  | nil => exact .inl ⟨rfl, rfl⟩
  | cons c r ih =>
    by_cases hc : (c == 46) = true
    · refine .inr ⟨0, ?_, by simp, ?_⟩
      · simp [indexByte, hc]
      · simp [cut, hc]
    · have hc' : (c == 46) = false := by simpa using hc
      rcases ih with ⟨h1, h2⟩ | ⟨m, h1, h2, h3⟩
      · refine .inl ⟨?_, ?_⟩
        · simp [cut, hc', h1]
        · simp [indexByte, hc', h2]
      · refine .inr ⟨m + 1, ?_, by simpa using h2, ?_⟩
        · have : ¬ ((m : Int) == -1) = true := by simp
          simp only [indexByte, hc', h1, if_neg this]
          simp
        · simp [cut, hc', h3]
theorem cut_some : ∀ {l a b : List UInt8}, cut l = some (a, b) → l = a ++ 46 :: b := by
  intro l
  induction l with
  | nil => intro a b h; cases h
  | cons c r ih =>
    intro a b h
    simp only [cut] at h
    split at h
    · rename_i hc
      have : c = 46 := by simpa using hc
      subst this
      injection h with h; injection h with h1 h2
      subst h1; subst h2; rfl
    · obtain ⟨⟨p, q⟩, h1, h2⟩ := Option.map_eq_some_iff.1 h
      simp only [Prod.mk.injEq] at h2
      obtain ⟨rfl, rfl⟩ := h2
      rw [ih h1]; rfl
theorem cut_dig : ∀ (d r : List UInt8), (∀ c ∈ d, dig c = true) → cut (d ++ 46 :: r) = some (d, r) := by
  intro d
  induction d with
  | nil => intro r _; simp [cut]
  | cons c d ih =>
    intro r h
    have hc := dig_iff.1 (h c (by simp))
    have hne : (c == 46) = false := by
      simp only [beq_eq_false_iff_ne, ne_eq]
      rintro rfl
      simp at hc
    simp [cut, hne, ih r (fun c hc => h c (by simp [hc]))]
theorem cut_none : ∀ (d : List UInt8), (∀ c ∈ d, dig c = true) → cut d = none := by
  intro d
  induction d with
  | nil => intro _; rfl
  | cons c d ih =>
    intro h
    have hc := dig_iff.1 (h c (by simp))
    have hne : (c == 46) = false := by
      simp only [beq_eq_false_iff_ne, ne_eq]
      rintro rfl
      simp at hc
    simp [cut, hne, ih (fun c hc => h c (by simp [hc]))]
/-- At most k + 1 pieces. -/
def split : Nat → List UInt8 → List (List UInt8)
  | 0, l => [l]
  | k + 1, l => match cut l with | none => [l] | some (a, b) => a :: split k b
theorem split_none {k : Nat} {l : List UInt8} (h : cut l = none) : split k l = [l] := by cases k <;> simp [split, h]
theorem split_some {k : Nat} {l a b : List UInt8} (h : cut l = some (a, b)) : split (k + 1) l = a :: split k b := by simp [split, h]
theorem split_len : ∀ (k : Nat) (l : List UInt8), 1 ≤ (split k l).length ∧ (split k l).length ≤ k + 1 := by
  intro k
  induction k with
  | zero => intro l; simp [split]
  | succ k ih =>
    intro l
    cases h : cut l with
    | none => rw [split_none h]; simp
    | some p => obtain ⟨a, b⟩ := p; rw [split_some h]; have := ih b; simp; omega
/-- More cuts than bytes make no difference. -/
theorem split_more : ∀ (j k : Nat) (l : List UInt8), l.length ≤ j → l.length ≤ k → split j l = split k l := by
  intro j
  induction j with
  | zero =>
    intro k l h _
    obtain rfl := List.eq_nil_of_length_eq_zero (Nat.le_zero.1 h)
    rw [split_none rfl, split_none rfl]
  | succ j ih =>
    intro k l h1 h2
    cases h : cut l with
    | none => rw [split_none h, split_none h]
    | some p =>
      obtain ⟨a, b⟩ := p
      have hl := congrArg List.length (cut_some h)
      simp only [List.length_append, List.length_cons] at hl
      cases k with
      | zero => omega
      | succ k => rw [split_some h, split_some h, ih k b (by omega) (by omega)]
theorem split_id (t r i : Nat) : split 3 (idText t r i) = [decDigits t, decDigits r, decDigits i] := by
  unfold idText
  rw [split_some (cut_dig _ _ (dec_dig t)), split_some (cut_dig _ _ (dec_dig r)), split_none (cut_none _ (dec_dig i))]
theorem split_nil : split 3 [] = [[]] := rfl

/-! ### The document's reading -/
/-- Digits at a text's head, 16 at most. -/
def head16 (l : List UInt8) : List UInt8 := (l.take 16).takeWhile dig
def numR (l : List UInt8) : Int × List UInt8 :=
  if (head16 l).length = 0 ∨ 15 < (head16 l).length ∨ (l.head? = some 48 ∧ 1 < (head16 l).length) then (-1, []) else ((val (head16 l) : Int), l.drop (head16 l).length)
theorem tw_pre (l : List UInt8) : ∀ (n : Nat), ∃ r, l = (l.take n).takeWhile dig ++ r := by
  induction l with
  | nil => intro n; exact ⟨[], by simp⟩
  | cons c l ih =>
    intro n
    cases n with
    | zero => exact ⟨c :: l, by simp⟩
    | succ n =>
      obtain ⟨r, hr⟩ := ih n
      by_cases hc : dig c = true
      · refine ⟨r, ?_⟩
        rw [List.take_succ_cons, List.takeWhile_cons, if_pos hc, List.cons_append, ← hr]
      · refine ⟨c :: l, ?_⟩
        rw [List.take_succ_cons, List.takeWhile_cons, if_neg hc]; rfl
theorem head16_pre (l : List UInt8) : l = head16 l ++ l.drop (head16 l).length := by
  obtain ⟨r, hr⟩ := tw_pre l 16
  have h2 : l = head16 l ++ r := hr
  have : l.drop (head16 l).length = r := by
    have := congrArg (List.drop (head16 l).length) h2
    rwa [List.drop_left] at this
  rw [this]; exact h2
theorem head16_dig (l : List UInt8) : ∀ c ∈ head16 l, dig c = true := fun c hc => by
  have := List.all_takeWhile (p := dig) (l := l.take 16)
  exact List.all_eq_true.1 this c hc
theorem head16_le (l : List UInt8) : (head16 l).length ≤ 16 := by
  unfold head16
  exact Nat.le_trans (List.takeWhile_prefix dig).length_le (by simp [List.length_take]; omega)
theorem head16_dec {d r : List UInt8} (hd : ∀ c ∈ d, dig c = true) (hl : d.length ≤ 15) (hr : r.head?.map dig ≠ some true) : head16 (d ++ r) = d := by
  unfold head16
  have h1 : (d ++ r).take 16 = d ++ r.take (16 - d.length) := by
    rw [List.take_append, List.take_of_length_le (by omega)]
  rw [h1, List.takeWhile_append_of_pos hd]
  suffices h : (r.take (16 - d.length)).takeWhile dig = [] by rw [h, List.append_nil]
  cases r with
  | nil => simp
  | cons x r =>
    have hx : ¬ dig x = true := by simpa using hr
    obtain ⟨k, hk⟩ : ∃ k, 16 - d.length = k + 1 := ⟨15 - d.length, by omega⟩
    rw [hk, List.take_succ_cons, List.takeWhile_cons, if_neg hx]
theorem numR_dec {u : Nat} (hu : u < 1000000000000000) {r : List UInt8} (hr : r.head?.map dig ≠ some true) : numR (decDigits u ++ r) = ((u : Int), r) := by
  have hl := dec_len (u := u) (k := 15) (by omega) (by omega)
  have hh := head16_dec (dec_dig u) hl hr
  have hne := dec_ne u
  unfold numR
  rw [hh, if_neg, dec_val, List.drop_left]
  rintro (h | h | ⟨h1, h2⟩)
  · exact hne (List.eq_nil_of_length_eq_zero h)
  · omega
  · by_cases hu0 : u = 0
    · subst hu0; rw [decDigits_one (by omega)] at h2; simp at h2
    · refine dec_head u hu0 ?_
      cases hd : decDigits u with
      | nil => exact absurd hd hne
      | cons a b => rw [hd] at h1; simp at h1; subst h1; rfl
theorem numR_some {l r : List UInt8} {n : Int} (h : numR l = (n, r)) (hn : 0 ≤ n) : l = decDigits n.toNat ++ r := by
  unfold numR at h
  split at h
  · injection h with h1 h2; omega
  · rename_i hc
    injection h with h1 h2
    have hpre := head16_pre l
    have hv : decDigits (val (head16 l)) = head16 l := by
      refine dec_of_val _ _ rfl ?_ (head16_dig l) ?_
      · intro h0; apply hc; left; rw [h0]; rfl
      · intro h48
        rcases Nat.lt_or_ge 1 (head16 l).length with h2' | h2'
        · exfalso; apply hc; right; right
          refine ⟨?_, h2'⟩
          rw [hpre]
          cases hd : head16 l with
          | nil => rw [hd] at h48; simp at h48
          | cons a b =>
            rw [hd] at h48
            simp at h48
            have : a = 48 := UInt8.toNat_inj.1 (by simpa using h48)
            simp [this]
        · have : (head16 l).length ≠ 0 := fun h0 => hc (.inl h0)
          omega
    rw [← h1, Int.toNat_natCast, hv, ← h2]
    exact hpre
theorem numR_self {l : List UInt8} (h : 0 ≤ (numR l).1) : l = decDigits (numR l).1.toNat ++ (numR l).2 := numR_some (n := (numR l).1) (r := (numR l).2) (by cases numR l; rfl) h
theorem numR_ge (l : List UInt8) : -1 ≤ (numR l).1 := by
  unfold numR; split
  · simp
  · exact Int.le_trans (by decide) (Int.natCast_nonneg _)
theorem numR_neg {l r : List UInt8} {n : Int} (h : numR l = (n, r)) (hn : n < 0) : n = -1 ∧ r = [] := by
  unfold numR at h
  split at h
  · injection h with h1 h2; exact ⟨h1.symm, h2.symm⟩
  · injection h with h1 h2; omega

/-- What stands behind the point that is wanted ahead of all numbers but the first. -/
def sepR (k : Nat) (rest : List UInt8) : Option (List UInt8) :=
  if k = 0 then some rest else match rest with | [] => none | c :: r => if c = 46 then some r else none
/-- The first k numbers, with points between, and what stands behind them. -/
def numsR : Nat → List UInt8 → Option (List Int × List UInt8)
  | 0, l => some ([], l)
  | k + 1, l => match numsR k l with
    | none => none
    | some (ns, rest) => match sepR k rest with
      | none => none
      | some r => if (numR r).1 < 0 then none else some (ns ++ [(numR r).1], (numR r).2)
theorem numsR_none {l : List UInt8} {k : Nat} (h : numsR k l = none) : ∀ j, numsR (k + j) l = none := by
  intro j
  induction j with
  | zero => exact h
  | succ j ih => rw [← Nat.add_assoc]; simp only [numsR, ih]
theorem numsR_on {l rest r : List UInt8} {k : Nat} {ns : List Int} (h : numsR k l = some (ns, rest)) (hs : sepR k rest = some r) (hn : 0 ≤ (numR r).1) : numsR (k + 1) l = some (ns ++ [(numR r).1], (numR r).2) := by
  simp only [numsR, h, hs]
  rw [if_neg (by omega)]
theorem numsR_sep {l rest : List UInt8} {k : Nat} {ns : List Int} (h : numsR k l = some (ns, rest)) (hs : sepR k rest = none) : numsR (k + 1) l = none := by
  simp only [numsR, h, hs]
theorem numsR_bad {l rest r : List UInt8} {k : Nat} {ns : List Int} (h : numsR k l = some (ns, rest)) (hs : sepR k rest = some r) (hn : (numR r).1 < 0) : numsR (k + 1) l = none := by
  simp only [numsR, h, hs]
  rw [if_pos hn]
theorem numsR_back {l rest' : List UInt8} {k : Nat} {ns' : List Int} (h : numsR (k + 1) l = some (ns', rest')) : ∃ ns rest r, numsR k l = some (ns, rest) ∧ sepR k rest = some r ∧ 0 ≤ (numR r).1 ∧ ns' = ns ++ [(numR r).1] ∧ rest' = (numR r).2 := by
  simp only [numsR] at h
  split at h
  · cases h
  · rename_i ns rest h1
    split at h
    · cases h
    · rename_i r h2
      split at h
      · cases h
      · rename_i h3
        injection h with h; injection h with h4 h5
        exact ⟨ns, rest, r, h1, h2, by omega, h4.symm, h5.symm⟩
theorem sepR_succ {k : Nat} {rest r : List UInt8} (h : sepR (k + 1) rest = some r) : rest = 46 :: r := by
  unfold sepR at h
  rw [if_neg (by omega)] at h
  cases rest with
  | nil => cases h
  | cons c x =>
    simp only at h
    split at h
    · rename_i hc; injection h with h; rw [hc, h]
    · cases h
/-- The id that a text spells. -/
def parseR (l : List UInt8) : Option (Int × Int × Int) :=
  match numsR 3 l with
  | some ([t, r, i], []) => if rightId t r i = true then some (t, r, i) else none
  | _ => none
theorem numsR_three {l rest : List UInt8} {ns : List Int} (h : numsR 3 l = some (ns, rest)) : ∃ t r i : Int, ns = [t, r, i] ∧ 0 ≤ t ∧ 0 ≤ r ∧ 0 ≤ i ∧ l = decDigits t.toNat ++ 46 :: (decDigits r.toNat ++ 46 :: (decDigits i.toNat ++ rest)) := by
  obtain ⟨ns2, rest2, r2, h2, s2, g2, e2, q2⟩ := numsR_back h
  obtain ⟨ns1, rest1, r1, h1, s1, g1, e1, q1⟩ := numsR_back h2
  obtain ⟨ns0, rest0, r0, h0, s0, g0, e0, q0⟩ := numsR_back h1
  simp only [numsR, Option.some.injEq, Prod.mk.injEq] at h0
  obtain ⟨rfl, rfl⟩ := h0
  have s0' : l = r0 := by simpa [sepR] using s0
  subst s0'
  have d0 := numR_self g0
  have d1 := numR_self g1
  have d2 := numR_self g2
  have t1 := sepR_succ s1
  have t2 := sepR_succ s2
  refine ⟨(numR l).1, (numR r1).1, (numR r2).1, by rw [e2, e1, e0]; rfl, g0, g1, g2, ?_⟩
  rw [q2, ← d2, ← t2, q1, ← d1, ← t1, q0, ← d0]
theorem head46 (r : List UInt8) : (46 :: r).head?.map dig ≠ some true := by
  rw [List.head?_cons, Option.map_some]; decide
theorem numsR_id {t r i : Nat} (ht : t < 1000000000000000) (hr : r < 1000000000000000) (hi : i < 1000000000000000) : numsR 3 (idText t r i) = some ([(t : Int), (r : Int), (i : Int)], []) := by
  have e1 := numR_dec ht (r := 46 :: (decDigits r ++ 46 :: decDigits i)) (head46 _)
  have e2 := numR_dec hr (r := 46 :: decDigits i) (head46 _)
  have e3 := numR_dec hi (r := []) (by simp)
  rw [List.append_nil] at e3
  have f1 := numsR_on (k := 0) (l := idText t r i) (ns := []) (rest := idText t r i) (r := idText t r i) rfl rfl (by unfold idText; rw [e1]; exact Int.natCast_nonneg _)
  have g1 : numR (idText t r i) = ((t : Int), 46 :: (decDigits r ++ 46 :: decDigits i)) := e1
  rw [g1] at f1
  have f2 := numsR_on (k := 1) f1 rfl (by rw [e2]; exact Int.natCast_nonneg _)
  rw [e2] at f2
  have f3 := numsR_on (k := 2) f2 rfl (by rw [e3]; exact Int.natCast_nonneg _)
  rw [e3] at f3
  exact f3
theorem parseR_some {l : List UInt8} {t r i : Int} : parseR l = some (t, r, i) ↔ rightId t r i = true ∧ l = textR t r i := by
  constructor
  · intro h
    unfold parseR at h
    split at h
    · rename_i t' r' i' hs
      split at h
      · rename_i hr
        injection h with h; injection h with h1 h2; injection h2 with h2 h3
        subst h1; subst h2; subst h3
        refine ⟨hr, ?_⟩
        obtain ⟨a, b, c, hn, _, _, _, hl⟩ := numsR_three hs
        injection hn with q1 q2; injection q2 with q2 q3; injection q3 with q3 _
        subst q1; subst q2; subst q3
        rw [textR_right hr, hl, List.append_nil]; rfl
      · cases h
    · cases h
  · rintro ⟨hr, rfl⟩
    have hb := rightId_iff.1 hr
    rw [textR_right hr]
    unfold parseR
    rw [numsR_id (by omega) (by omega) (by omega)]
    simp only
    rw [show ((t.toNat : Nat) : Int) = t by omega, show ((r.toNat : Nat) : Int) = r by omega, show ((i.toNat : Nat) : Int) = i by omega, if_pos hr]
theorem parseR_none {l : List UInt8} (h : ∀ t r i, rightId t r i = true → l ≠ textR t r i) : parseR l = none := by
  cases hp : parseR l with
  | none => rfl
  | some x => obtain ⟨t, r, i⟩ := x; have := parseR_some.1 hp; exact absurd this.2 (h t r i this.1)
theorem parseR_text {t r i : Int} (h : rightId t r i = true) : parseR (textR t r i) = some (t, r, i) := parseR_some.2 ⟨h, rfl⟩
theorem parseR_nil : parseR [] = none := parseR_none fun t r i h e => by
  rw [textR_right h] at e; exact idText_ne _ _ _ e.symm
/-- The pieces and the numbers of a text that is an id's. -/
theorem split_text {l : List UInt8} {t r i : Int} (h : rightId t r i = true) (hl : l = textR t r i) : split 3 l = [decDigits t.toNat, decDigits r.toNat, decDigits i.toNat] ∧ atoiAll (decDigits t.toNat) = .ok t ∧ atoiAll (decDigits r.toNat) = .ok r ∧ atoiAll (decDigits i.toNat) = .ok i := by
  have hb := rightId_iff.1 h
  rw [hl, textR_right h, split_id]
  refine ⟨rfl, ?_, ?_, ?_⟩
  · have := atoi_dec t.toNat (by omega); rwa [show ((t.toNat : Nat) : Int) = t by omega] at this
  · have := atoi_dec r.toNat (by omega); rwa [show ((r.toNat : Nat) : Int) = r by omega] at this
  · have := atoi_dec i.toNat (by omega); rwa [show ((i.toNat : Nat) : Int) = i by omega] at this
/-- WHAT THE PROGRAM's Parse COMES TO: three pieces, each a number, whose text is the text. -/
theorem parse_pieces {l p0 p1 p2 : List UInt8} {a b c : Int} (hs : split 3 l = [p0, p1, p2]) (h0 : atoiAll p0 = .ok a) (h1 : atoiAll p1 = .ok b) (h2 : atoiAll p2 = .ok c) :
    (textR a b c = l → parseR l = some (a, b, c)) ∧ (textR a b c ≠ l → parseR l = none) := by
  constructor
  · intro he
    have hr : rightId a b c = true := by
      cases hr : rightId a b c with
      | true => rfl
      | false =>
        rw [textR_wrong hr] at he
        subst he
        rw [split_nil] at hs; cases hs
    exact parseR_some.2 ⟨hr, he.symm⟩
  · intro hne
    refine parseR_none fun t r i hr hl => hne ?_
    obtain ⟨e, e0, e1, e2⟩ := split_text hr hl
    rw [hs] at e
    injection e with q0 q; injection q with q1 q; injection q with q2 _
    subst q0; subst q1; subst q2
    rw [h0] at e0; rw [h1] at e1; rw [h2] at e2
    injection e0 with e0; injection e1 with e1; injection e2 with e2
    rw [hl, e0, e1, e2]
theorem parse_bad {l : List UInt8} (h : ∀ p0 p1 p2 a b c, split 3 l = [p0, p1, p2] → atoiAll p0 = .ok a → atoiAll p1 = .ok b → atoiAll p2 = .ok c → False) : parseR l = none :=
  parseR_none fun t r i hr hl => by
    obtain ⟨e, e0, e1, e2⟩ := split_text hr hl
    exact h _ _ _ _ _ _ e e0 e1 e2
theorem parse_few {l : List UInt8} (h : (split 3 l).length ≠ 3) : parseR l = none := parse_bad fun p0 p1 p2 a b c hs _ _ _ => h (by rw [hs]; rfl)

end Go.Proofs.Ytphnimmhjnhajaa.M5

/-
  Layer 5, plain mathematics: vectors. Nothing here speaks of a program.
-/
namespace Go.Proofs.Ytphnimmhjnhajaa.M5
set_option linter.unusedVariables false

/-- How many numbers stand ahead of the noughts among the first n. -/
def endN (v : List Int) : Nat → Nat
  | 0 => 0
  | n + 1 => if v.getD n 0 = 0 then endN v n else n + 1
theorem endN_le (v : List Int) : ∀ n, endN v n ≤ n := by
  intro n
  induction n with
  | zero => simp [endN]
  | succ n ih => simp only [endN]; split <;> omega
theorem endN_zero {v : List Int} : ∀ {n k : Nat}, endN v n ≤ k → k < n → v.getD k 0 = 0 := by
  intro n
  induction n with
  | zero => intro k _ h; omega
  | succ n ih =>
    intro k h1 h2
    simp only [endN] at h1
    split at h1
    · rename_i h0
      by_cases hk : k = n
      · rw [hk]; exact h0
      · exact ih h1 (by omega)
    · omega
theorem endN_last {v : List Int} : ∀ {n : Nat}, 0 < endN v n → v.getD (endN v n - 1) 0 ≠ 0 := by
  intro n
  induction n with
  | zero => intro h; simp [endN] at h
  | succ n ih =>
    intro h
    simp only [endN] at h ⊢
    split
    · rename_i h0; rw [if_pos h0] at h; exact ih h
    · rename_i h0; simpa using h0
def plainL (v : List Int) : List Int := v.take (endN v v.length)
theorem plainL_len (v : List Int) : (plainL v).length = endN v v.length := by
  unfold plainL; rw [List.length_take]; have := endN_le v v.length; omega
theorem plainL_le (v : List Int) : (plainL v).length ≤ v.length := by rw [plainL_len]; exact endN_le _ _
theorem getD_far {v : List Int} {k : Nat} (h : v.length ≤ k) : v.getD k 0 = 0 := by
  rw [List.getD_eq_getElem?_getD, List.getElem?_eq_none h]; rfl
theorem plainL_get (v : List Int) (k : Nat) : (plainL v).getD k 0 = v.getD k 0 := by
  by_cases h : k < endN v v.length
  · unfold plainL
    rw [List.getD_eq_getElem?_getD, List.getElem?_take, if_pos h, ← List.getD_eq_getElem?_getD]
  · rw [getD_far (by rw [plainL_len]; omega)]
    by_cases hk : k < v.length
    · exact (endN_zero (Nat.le_of_not_lt h) hk).symm
    · exact (getD_far (by omega)).symm
theorem plainL_last {v : List Int} (h : 0 < (plainL v).length) : (plainL v).getD ((plainL v).length - 1) 0 ≠ 0 := by
  rw [plainL_get, plainL_len]
  exact endN_last (by rwa [plainL_len] at h)
theorem plain_ext_le {v w : List Int} (h : ∀ k, v.getD k 0 = w.getD k 0) : (plainL v).length ≤ (plainL w).length := by
  rcases Nat.lt_or_ge (plainL w).length (plainL v).length with hl | hl
  · exfalso
    refine plainL_last (v := v) (by omega) ?_
    rw [plainL_get, h, ← plainL_get]
    exact getD_far (by omega)
  · exact hl
theorem list_ext {v w : List Int} (hl : v.length = w.length) (h : ∀ k, v.getD k 0 = w.getD k 0) : v = w := by
  apply List.ext_getElem hl
  intro k h1 h2
  have := h k
  rwa [List.getD_eq_getElem?_getD, List.getD_eq_getElem?_getD, List.getElem?_eq_getElem h1, List.getElem?_eq_getElem h2] at this
theorem plain_eq {v w : List Int} : plainL v = plainL w ↔ ∀ k, v.getD k 0 = w.getD k 0 := by
  constructor
  · intro h k; rw [← plainL_get v, h, plainL_get]
  · intro h
    have h1 := plain_ext_le h
    have h2 := plain_ext_le (fun k => (h k).symm)
    exact list_ext (by omega) (fun k => by rw [plainL_get, plainL_get]; exact h k)
theorem plain_plain (v : List Int) : plainL (plainL v) = plainL v := plain_eq.2 (plainL_get v)

/-- v's number of replica r. -/
def atL (v : List Int) (r : Int) : Int := if r < 1 then 0 else v.getD (r - 1).toNat 0
theorem atL_succ (v : List Int) (k : Nat) : atL v ((k : Int) + 1) = v.getD k 0 := by
  unfold atL; rw [if_neg (by omega)]; congr 1; omega
theorem atL_out {v : List Int} {r : Int} (h : r < 1 ∨ (v.length : Int) < r) : atL v r = 0 := by
  unfold atL
  by_cases h1 : r < 1
  · rw [if_pos h1]
  · rw [if_neg h1, getD_far (by omega)]

def coversL (v w : List Int) : Bool := (List.range (max v.length w.length)).all fun k => decide (w.getD k 0 ≤ v.getD k 0)
theorem coversL_iff {v w : List Int} : coversL v w = true ↔ ∀ k, w.getD k 0 ≤ v.getD k 0 := by
  unfold coversL
  rw [List.all_eq_true]
  constructor
  · intro h k
    by_cases hk : k < max v.length w.length
    · exact of_decide_eq_true (h k (List.mem_range.2 hk))
    · rw [getD_far (by omega), getD_far (by omega)]; exact Int.le_refl _
  · intro h k _; exact decide_eq_true (h k)
theorem covers_not {v w : List Int} {k : Nat} (h : v.getD k 0 < w.getD k 0) : coversL v w = false := by
  rw [Bool.eq_false_iff]
  intro hc
  have := coversL_iff.1 hc k
  omega
theorem covers_done {v w : List Int} (h : ∀ k, k < max v.length w.length → w.getD k 0 ≤ v.getD k 0) : coversL v w = true := by
  unfold coversL
  rw [List.all_eq_true]
  intro k hk
  exact decide_eq_true (h k (List.mem_range.1 hk))

/-- What f makes of the numbers of each replica, of the first n. -/
def zipN (f : Int → Int → Int) (v w : List Int) (n : Nat) : List Int := (List.range n).map fun k => f (v.getD k 0) (w.getD k 0)
theorem zipN_len (f : Int → Int → Int) (v w : List Int) (n : Nat) : (zipN f v w n).length = n := by simp [zipN]
theorem zipN_snoc (f : Int → Int → Int) (v w : List Int) (n : Nat) : zipN f v w (n + 1) = zipN f v w n ++ [f (v.getD n 0) (w.getD n 0)] := by
  unfold zipN; rw [List.range_succ, List.map_append]; rfl
theorem zipN_get (f : Int → Int → Int) (v w : List Int) {n k : Nat} (h : k < n) : (zipN f v w n).getD k 0 = f (v.getD k 0) (w.getD k 0) := by
  unfold zipN
  rw [List.getD_eq_getElem?_getD, List.getElem?_map, List.getElem?_range h]; rfl
def togL (f : Int → Int → Int) (v w : List Int) : List Int := plainL (zipN f v w (max v.length w.length))
theorem togL_get {f : Int → Int → Int} (hf : f 0 0 = 0) (v w : List Int) (k : Nat) : (togL f v w).getD k 0 = f (v.getD k 0) (w.getD k 0) := by
  unfold togL
  rw [plainL_get]
  by_cases hk : k < max v.length w.length
  · exact zipN_get f v w hk
  · rw [getD_far (by rw [zipN_len]; omega), getD_far (v := v) (by omega), getD_far (v := w) (by omega), hf]
theorem togL_len (f : Int → Int → Int) (v w : List Int) : (togL f v w).length ≤ max v.length w.length := by
  unfold togL
  have := plainL_le (zipN f v w (max v.length w.length))
  rw [zipN_len] at this
  exact this
def mergeL (v w : List Int) : List Int := togL max v w
def meetL (v w : List Int) : List Int := togL min v w
theorem merge_get (v w : List Int) (k : Nat) : (mergeL v w).getD k 0 = max (v.getD k 0) (w.getD k 0) := togL_get (f := max) (by decide) v w k
theorem meet_get (v w : List Int) (k : Nat) : (meetL v w).getD k 0 = min (v.getD k 0) (w.getD k 0) := togL_get (f := min) (by decide) v w k

/-- v with n as the number of replica k + 1, of the first m. -/
def putN (v : List Int) (k : Nat) (n : Int) (m : Nat) : List Int := (List.range m).map fun j => if j = k then n else v.getD j 0
theorem putN_len (v : List Int) (k : Nat) (n : Int) (m : Nat) : (putN v k n m).length = m := by simp [putN]
theorem putN_snoc (v : List Int) (k : Nat) (n : Int) (m : Nat) : putN v k n (m + 1) = putN v k n m ++ [if m = k then n else v.getD m 0] := by
  unfold putN; rw [List.range_succ, List.map_append]; rfl
/-- v, cut or filled up with noughts to n numbers. -/
def padN (v : List Int) (n : Nat) : List Int := (List.range n).map fun j => v.getD j 0
theorem padN_len (v : List Int) (n : Nat) : (padN v n).length = n := by simp [padN]
theorem padN_eq (v : List Int) (n : Nat) : padN v n = v.take n ++ List.replicate (n - v.length) 0 := by
  apply list_ext
  · rw [padN_len, List.length_append, List.length_take, List.length_replicate]; omega
  · intro k
    by_cases hk : k < n
    · have h1 : (padN v n).getD k 0 = v.getD k 0 := by
        unfold padN; rw [List.getD_eq_getElem?_getD, List.getElem?_map, List.getElem?_range hk]; rfl
      rw [h1]
      by_cases hv : k < v.length
      · rw [List.getD_eq_getElem?_getD, List.getD_eq_getElem?_getD, List.getElem?_append_left (by rw [List.length_take]; omega), List.getElem?_take, if_pos hk]
      · rw [getD_far (by omega), List.getD_eq_getElem?_getD, List.getElem?_append_right (by rw [List.length_take]; omega)]
        rw [List.getElem?_replicate]; split <;> rfl
    · rw [getD_far (by rw [padN_len]; omega), getD_far (by rw [List.length_append, List.length_take, List.length_replicate]; omega)]
theorem padN_put (v : List Int) {k n : Nat} (x : Int) (h : k < n) : (padN v n).set k x = putN v k x n := by
  apply List.ext_getElem
  · rw [List.length_set, padN_len, putN_len]
  · intro j h1 h2
    have hj : j < n := by rwa [putN_len] at h2
    have e1 : (padN v n)[j]'(by rwa [padN_len]) = v.getD j 0 := by simp [padN]
    have e2 : (putN v k x n)[j]'h2 = if j = k then x else v.getD j 0 := by simp [putN]
    rw [List.getElem_set, e2]
    by_cases e : k = j
    · rw [if_pos e, if_pos e.symm]
    · rw [if_neg e, if_neg (Ne.symm e), e1]
/-- E6's answer: an error's number, and the vector. -/
def withR (v : List Int) (r n : Int) : List Int × Int :=
  if r < 1 ∨ 16 < r then ([], 1) else (plainL (putN v (r - 1).toNat n (max v.length r.toNat)), 0)
theorem withR_out {v : List Int} {r n : Int} (h : r < 1 ∨ 16 < r) : withR v r n = ([], 1) := by unfold withR; rw [if_pos h]
theorem withR_in {v : List Int} {r n : Int} (h1 : 1 ≤ r) (h2 : r ≤ 16) : withR v r n = (plainL (putN v (r - 1).toNat n (max v.length r.toNat)), 0) := by unfold withR; rw [if_neg (by omega)]
def vectorL (v : List Int) : Bool := decide (v.length ≤ 16) && decide (endN v v.length = v.length) && v.all (fun x => decide (0 ≤ x))

theorem bounds_merge (v w : List Int) : coversL (mergeL v w) v = true ∧ coversL (mergeL v w) w = true :=
  ⟨coversL_iff.2 fun k => by rw [merge_get]; omega, coversL_iff.2 fun k => by rw [merge_get]; omega⟩
theorem bounds_meet (v w : List Int) : coversL v (meetL v w) = true ∧ coversL w (meetL v w) = true :=
  ⟨coversL_iff.2 fun k => by rw [meet_get]; omega, coversL_iff.2 fun k => by rw [meet_get]; omega⟩
theorem least {u v w : List Int} (h1 : coversL u v = true) (h2 : coversL u w = true) : coversL u (mergeL v w) = true :=
  coversL_iff.2 fun k => by have := coversL_iff.1 h1 k; have := coversL_iff.1 h2 k; rw [merge_get]; omega
theorem greatest {u v w : List Int} (h1 : coversL v u = true) (h2 : coversL w u = true) : coversL (meetL v w) u = true :=
  coversL_iff.2 fun k => by have := coversL_iff.1 h1 k; have := coversL_iff.1 h2 k; rw [meet_get]; omega
theorem same_covers (v w : List Int) : decide (plainL v = plainL w) = (coversL v w && coversL w v) := by
  rw [Bool.eq_iff_iff, decide_eq_true_iff, Bool.and_eq_true, coversL_iff, coversL_iff, plain_eq]
  constructor
  · intro h; exact ⟨fun k => by rw [h k]; exact Int.le_refl _, fun k => by rw [h k]; exact Int.le_refl _⟩
  · rintro ⟨h1, h2⟩ k; have := h1 k; have := h2 k; omega
theorem merge_comm (v w : List Int) : mergeL v w = mergeL w v := by
  unfold mergeL togL zipN
  rw [Nat.max_comm]
  congr 1
  apply List.map_congr_left
  intro k _
  omega

end Go.Proofs.Ytphnimmhjnhajaa.M5

/-
  Layer 5, plain mathematics: how ids stand to one another. Nothing here speaks of a program.
-/
namespace Go.Proofs.Ytphnimmhjnhajaa.M5
set_option linter.unusedVariables false

def cmpI (a b : Int) : Int := if a < b then -1 else if b < a then 1 else 0
/-- The first that is not nought. -/
def orI (a b : Int) : Int := if a = 0 then b else a
def cmpS (t r t' r' : Int) : Int := orI (cmpI t t') (cmpI r r')
def cmpD (t r i t' r' i' : Int) : Int := orI (cmpS t r t' r') (cmpI i i')
theorem cmpI_cases (a b : Int) : (a < b ∧ cmpI a b = -1) ∨ (b < a ∧ cmpI a b = 1) ∨ (a = b ∧ cmpI a b = 0) := by
  unfold cmpI
  rcases Int.lt_trichotomy a b with h | h | h
  · left; rw [if_pos h]; exact ⟨h, rfl⟩
  · right; right; rw [if_neg (by omega), if_neg (by omega)]; exact ⟨h, rfl⟩
  · right; left; rw [if_neg (by omega), if_pos h]; exact ⟨h, rfl⟩
theorem orI_zero (b : Int) : orI 0 b = b := by simp [orI]
theorem orI_pos {a : Int} (b : Int) (h : a ≠ 0) : orI a b = a := by simp [orI, h]
theorem orI_cases (a b : Int) : (a = 0 ∧ orI a b = b) ∨ (a ≠ 0 ∧ orI a b = a) := by
  by_cases h : a = 0
  · left; subst h; exact ⟨rfl, orI_zero b⟩
  · right; exact ⟨h, orI_pos b h⟩
theorem cmpD_rng (t r i t' r' i' : Int) : -1 ≤ cmpD t r i t' r' i' ∧ cmpD t r i t' r' i' ≤ 1 := by
  unfold cmpD cmpS
  have := cmpI_cases t t'; have := cmpI_cases r r'; have := cmpI_cases i i'
  have := orI_cases (cmpI t t') (cmpI r r'); have := orI_cases (orI (cmpI t t') (cmpI r r')) (cmpI i i')
  omega
theorem cmpD_turn (t r i t' r' i' : Int) : cmpD t r i t' r' i' = -cmpD t' r' i' t r i := by
  unfold cmpD cmpS
  have := cmpI_cases t t'; have := cmpI_cases r r'; have := cmpI_cases i i'
  have := cmpI_cases t' t; have := cmpI_cases r' r; have := cmpI_cases i' i
  have := orI_cases (cmpI t t') (cmpI r r'); have := orI_cases (orI (cmpI t t') (cmpI r r')) (cmpI i i')
  have := orI_cases (cmpI t' t) (cmpI r' r); have := orI_cases (orI (cmpI t' t) (cmpI r' r)) (cmpI i' i)
  omega
theorem cmpD_zero (t r i t' r' i' : Int) : cmpD t r i t' r' i' = 0 ↔ t = t' ∧ r = r' ∧ i = i' := by
  unfold cmpD cmpS
  have := cmpI_cases t t'; have := cmpI_cases r r'; have := cmpI_cases i i'
  have := orI_cases (cmpI t t') (cmpI r r'); have := orI_cases (orI (cmpI t t') (cmpI r r')) (cmpI i i')
  omega
theorem cmpD_le (t r i t' r' i' : Int) : cmpD t r i t' r' i' ≤ 0 ↔ (t < t' ∨ (t = t' ∧ (r < r' ∨ (r = r' ∧ i ≤ i')))) := by
  unfold cmpD cmpS
  have := cmpI_cases t t'; have := cmpI_cases r r'; have := cmpI_cases i i'
  have := orI_cases (cmpI t t') (cmpI r r'); have := orI_cases (orI (cmpI t t') (cmpI r r')) (cmpI i i')
  omega
theorem cmpD_trans {t r i t' r' i' t'' r'' i'' : Int} (h1 : cmpD t r i t' r' i' ≤ 0) (h2 : cmpD t' r' i' t'' r'' i'' ≤ 0) : cmpD t r i t'' r'' i'' ≤ 0 := by
  rw [cmpD_le] at *
  omega
/-- The document's: one ahead of the other, by a stamp. -/
def befS (t r t' r' : Int) : Bool := decide (t < t' ∨ (t = t' ∧ r < r'))
theorem befS_cmp (t r t' r' : Int) : cmpS t r t' r' = if befS t r t' r' = true then -1 else if befS t' r' t r = true then 1 else 0 := by
  unfold cmpS befS
  simp only [decide_eq_true_eq]
  have := cmpI_cases t t'; have := cmpI_cases r r'
  have := orI_cases (cmpI t t') (cmpI r r')
  split
  · omega
  · split <;> omega
/-- The first number of a list that is not nought. -/
def orL : List Int → Int
  | [] => 0
  | x :: l => if x = 0 then orL l else x
theorem orL_two (a b : Int) : orL [a, b] = orI a b := by
  unfold orL orL orI
  by_cases h : a = 0
  · rw [if_pos h, if_pos h]
    by_cases h2 : b = 0
    · rw [if_pos h2, h2]; rfl
    · rw [if_neg h2]
  · rw [if_neg h, if_neg h]
theorem orL_at : ∀ {l : List Int} {k : Nat}, (∀ j, j < k → l.getD j 0 = 0) → l.getD k 0 ≠ 0 → orL l = l.getD k 0 := by
  intro l
  induction l with
  | nil => intro k _ h; simp at h
  | cons x l ih =>
    intro k h1 h2
    cases k with
    | zero => simp only [List.getD_cons_zero] at h2 ⊢; simp only [orL]; rw [if_neg h2]
    | succ k =>
      have h0 := h1 0 (by omega)
      simp only [List.getD_cons_zero] at h0
      simp only [orL]; rw [if_pos h0]
      simp only [List.getD_cons_succ] at h2 ⊢
      exact ih (fun j hj => by have := h1 (j + 1) (by omega); simpa only [List.getD_cons_succ] using this) h2
theorem orL_none : ∀ {l : List Int}, (∀ j, j < l.length → l.getD j 0 = 0) → orL l = 0 := by
  intro l
  induction l with
  | nil => intro _; rfl
  | cons x l ih =>
    intro h
    have h0 := h 0 (by simp)
    simp only [List.getD_cons_zero] at h0
    simp only [orL]; rw [if_pos h0]
    exact ih (fun j hj => by have := h (j + 1) (by simp; omega); simpa only [List.getD_cons_succ] using this)
theorem nought_on {v : List Int} {k : Nat} (h : ∀ j, j < k → v.getD j 0 = 0) (hk : v.getD k 0 = 0) : ∀ j, j < k + 1 → v.getD j 0 = 0 := by
  intro j hj
  by_cases e : j = k
  · rw [e]; exact hk
  · exact h j (by omega)

end Go.Proofs.Ytphnimmhjnhajaa.M5

/-
  What a walk is told of slices that came in.
-/
namespace Go.Proofs.Ytphnimmhjnhajaa
open Go.RowKit

/-- A SLICE OF INTEGERS THAT CAME IN: it is nil; or it leads to a row of 'cap' cells, the numbers 'zs' (the first 'len' are its elements, the rest its spare room), each fitting its kind. -/
def IsRow (k : IntKind) (w : World) (a : Option Addr) (len cap : Nat) (zs : List Int) : Prop :=
  (a = none ∧ len = 0 ∧ cap = 0 ∧ zs = []) ∨
  ∃ x, a = some x ∧ len ≤ cap ∧ cap ≤ maxLen ∧ zs.length = cap ∧ (∀ i, i < zs.length → w.cell? (x.add i) = some (.int k (zs.getD i 0))) ∧ ∀ n ∈ zs, (Lit.int k n).wf = true

/-- A slice of strings that came in. -/
def IsStrs (w : World) (a : Option Addr) (len cap : Nat) (ss : List ByteArray) : Prop :=
  (a = none ∧ len = 0 ∧ cap = 0 ∧ ss = []) ∨
  ∃ x, a = some x ∧ len ≤ cap ∧ cap ≤ maxLen ∧ ss.length = cap ∧ (∀ i, i < ss.length → w.cell? (x.add i) = some (.string (ss.getD i ByteArray.empty))) ∧ ∀ s ∈ ss, s.size ≤ 140737488351232

end Go.Proofs.Ytphnimmhjnhajaa

/-
  A slice that reads as a list of values, wherever it came from; nil and empty ones with the others.
-/
namespace Go.Proofs.Ytphnimmhjnhajaa
open Go.RowKit

/-- The slice at A holds the cells xs, all of them in a block that is there. -/
def Rd (w : World) (A : Option Addr) (xs : List Value) : Prop :=
  xs = [] ∨ ∃ b off, A = some ⟨b, off, none⟩ ∧ b < w.heap.size ∧ ∀ j (hj : j < xs.length), w.cell? ⟨b, off + j, none⟩ = some xs[j]

theorem Rd.get {w : World} {A : Option Addr} {xs : List Value} (h : Rd w A xs) {k : Nat} (hk : k < xs.length) :
    ∃ b off, A = some ⟨b, off, none⟩ ∧ b < w.heap.size ∧ w.cell? ⟨b, off + k, none⟩ = some xs[k] := by
  rcases h with rfl | ⟨b, off, e, hb, hc⟩
  · simp at hk
  · exact ⟨b, off, e, hb, hc k hk⟩

theorem Rd.below {w w' : World} {A : Option Addr} {xs : List Value} (h : Rd w A xs) {B : Nat} (hb : Below B w w') (hB : w.heap.size ≤ B) : Rd w' A xs := by
  rcases h with rfl | ⟨b, off, e, hl, hc⟩
  · exact .inl rfl
  · exact .inr ⟨b, off, e, Nat.lt_of_lt_of_le hl hb.size, fun j hj => (hb.cell (p := ⟨b, off + j, none⟩) (show b < B by omega)).trans (hc j hj)⟩

theorem Rd.keep {w w' : World} {A : Option Addr} {xs : List Value} (h : Rd w A xs) (hb : Below w.heap.size w w') : Rd w' A xs := h.below hb (Nat.le_refl _)
theorem Rd.drewN {w : World} {A : Option Addr} {xs : List Value} (h : Rd w A xs) (n : Nat) : Rd (w.drewN n) A xs := h

theorem add_none (b off k : Nat) : (⟨b, off, none⟩ : Addr).add k = ⟨b, off + k, none⟩ := by
  unfold Addr.add; split <;> simp_all

theorem Rd.of_own {w : World} {B : Nat} {e : TypeId} {v : Value} {n : Nat} {xs : List Value} (h : w.ownsRow B e 1 v n xs) : ∃ A c, v = .slice A n c ∧ Rd w A xs ∧ xs.length = n := by
  have hl : xs.length = n := by simpa using h.1
  rcases h.2 with ⟨rfl, rfl⟩ | ⟨g, cap, cur, rfl, _, hh, _⟩
  · exact ⟨none, 0, rfl, .inl (List.eq_nil_of_length_eq_zero hl), hl⟩
  · refine ⟨some ⟨g, 0, none⟩, cap, rfl, .inr ⟨g, 0, rfl, (Array.getElem?_eq_some_iff.1 hh).1, fun j hj => ?_⟩, hl⟩
    have := h.cells (g := g) rfl j xs[j] (List.getElem?_eq_getElem hj)
    rw [add_none] at this
    exact this

theorem Rd.of_row {k : IntKind} {w : World} {a : Option Addr} {len cap : Nat} {zs : List Int} (h : IsRow k w a len cap zs) :
    Rd w a ((zs.take len).map (Value.int k)) ∧ (zs.take len).length = len ∧ (∀ z ∈ zs.take len, (Lit.int k z).wf = true) := by
  rcases h with ⟨rfl, rfl, rfl, rfl⟩ | ⟨x, rfl, hl, hm, hz, hc, hw⟩
  · exact ⟨.inl rfl, rfl, by simp⟩
  · have hlen : (zs.take len).length = len := by rw [List.length_take]; omega
    refine ⟨?_, hlen, fun z hz => hw z (List.mem_of_mem_take hz)⟩
    by_cases h0 : len = 0
    · subst h0; exact .inl (by simp)
    · obtain ⟨b, off, spot⟩ := x
      have hc0 := hc 0 (by omega)
      have hs : spot = none := by simpa [Addr.add] using World.cell?_spot hc0
      subst hs
      refine .inr ⟨b, off, rfl, ?_, fun j hj => ?_⟩
      · have := World.block_lt_of_cell? w _ hc0
        rw [add_none] at this
        exact this
      · simp only [List.length_map] at hj
        have := hc j (by omega)
        rw [add_none] at this
        rw [this]
        simp
        rw [List.getElem?_eq_getElem (by omega)]
        rfl

theorem Rd.of_strs {w : World} {a : Option Addr} {len cap : Nat} {ss : List ByteArray} (h : IsStrs w a len cap ss) :
    Rd w a ((ss.take len).map Value.string) ∧ (ss.take len).length = len ∧ (∀ s ∈ ss.take len, s.size ≤ 140737488351232) := by
  rcases h with ⟨rfl, rfl, rfl, rfl⟩ | ⟨x, rfl, hl, hm, hz, hc, hw⟩
  · exact ⟨.inl rfl, rfl, by simp⟩
  · have hlen : (ss.take len).length = len := by rw [List.length_take]; omega
    refine ⟨?_, hlen, fun z hz => hw z (List.mem_of_mem_take hz)⟩
    by_cases h0 : len = 0
    · subst h0; exact .inl (by simp)
    · obtain ⟨b, off, spot⟩ := x
      have hc0 := hc 0 (by omega)
      have hs : spot = none := by simpa [Addr.add] using World.cell?_spot hc0
      subst hs
      refine .inr ⟨b, off, rfl, ?_, fun j hj => ?_⟩
      · have := World.block_lt_of_cell? w _ hc0
        rw [add_none] at this
        exact this
      · simp only [List.length_map] at hj
        have := hc j (by omega)
        rw [add_none] at this
        rw [this]
        simp
        rw [List.getElem?_eq_getElem (by omega)]
        rfl

end Go.Proofs.Ytphnimmhjnhajaa

/-
  Texts as lists of bytes, rows of bytes and numbers, small facts that every layer's walks use.
-/
namespace Go.Proofs.Ytphnimmhjnhajaa
open Go.RowKit Go.PlainAid

def u8s (l : List UInt8) : List Value := l.map fun b => Value.int .u8 b.toNat
theorem u8s_append (a b : List UInt8) : u8s (a ++ b) = u8s a ++ u8s b := by simp [u8s]
theorem u8s_cons (a : UInt8) (b : List UInt8) : u8s (a :: b) = Value.int .u8 a.toNat :: u8s b := rfl
theorem u8s_nil : u8s [] = [] := rfl
theorem u8s_len (a : List UInt8) : (u8s a).length = a.length := by simp [u8s]
theorem info_u8 : (Try.prog.info? 5).map (fun i => (i.zero, i.size, i.bytes)) = some (some (.int .u8 0), 1, 1) := by kernel_rfl
def bs (l : List UInt8) : ByteArray := ⟨l.toArray⟩
theorem bs_list (l : List UInt8) : (bs l).data.toList = l := rfl
theorem bs_of (s : ByteArray) : bs s.data.toList = s := rfl
theorem bs_size (l : List UInt8) : (bs l).size = l.length := rfl
/-- A row of the call's own, as a string. -/
theorem own_string {w : World} {B : Nat} {v : Value} {n : Nat} {l : List UInt8} (h : w.ownsRow B 5 1 v n (u8s l)) :
    (convert 48 9 v).run Try.prog w = .ok (.string (bs l)) w := by
  have hlen : l.length = n := by have := h.1; rw [u8s_len] at this; omega
  subst hlen
  rcases h.2 with ⟨rfl, h0⟩ | ⟨g, cap, cur, rfl, _, hh, hnc, _, hsz, ht⟩
  · have : l = [] := List.eq_nil_of_length_eq_zero h0
    subst this
    exact run_convert_bytes_nil (P := Try.prog) w 48 5 Try.underlying48 Try.underlying5 0 0 9 Try.underlying9
  · refine run_convert_bytes_back (P := Try.prog) w 48 9 5 ⟨g, 0, none⟩ cap l Try.underlying48 Try.underlying5 Try.underlying9 (fun j hj => ?_)
    exact h.cells (g := g) rfl j _ (by simp [u8s, hj])
theorem below_drewN {B : Nat} {a w : World} (h : Below B a w) (n : Nat) : Below B a (w.drewN n) := ⟨h.os, h.tape, h.output, h.size, h.block⟩
theorem drop_bt (s : ByteArray) {k : Nat} (h : k < s.size) : ∃ b : UInt8, s.data.toList.drop k = b :: s.data.toList.drop (k + 1) ∧ bt s k = (b.toNat : Int) := by
  have hl : k < s.data.toList.length := by simpa using h
  refine ⟨s.data.toList[k], List.drop_eq_getElem_cons hl, ?_⟩
  unfold bt; rw [dif_pos h]; rfl
theorem ext_list (s : ByteArray) (a b : Nat) : (s.extract a b).data.toList = (s.data.toList.drop a).take (b - a) := by
  obtain ⟨⟨l⟩⟩ := s
  rw [ByteArray.extract_mk]
theorem bs_ext {s t : ByteArray} (h : s.data.toList = t.data.toList) : s = t := ByteArray.ext (Array.toList_inj.1 h)
theorem ext_end (s : ByteArray) (k : Nat) : s.extract k s.size = bs (s.data.toList.drop k) := by
  apply bs_ext
  rw [ext_list, bs_list, List.take_of_length_le]
  have : s.data.toList.length = s.size := rfl
  simp only [List.length_drop]
  omega
theorem ret3 {a a' : Int} {b b' : ByteArray} {c c' : Int} (h1 : a = a') (h2 : b = b') (h3 : c = c') :
    Ending.returned (.tuple #[.int .i64 a, .string b, .int .i64 c]) = Ending.returned (.tuple #[.int .i64 a', .string b', .int .i64 c']) := by rw [h1, h2, h3]
theorem ret3s {a a' b b' : ByteArray} {c c' : Int} (h1 : a = a') (h2 : b = b') (h3 : c = c') :
    Ending.returned (.tuple #[.string a, .string b, .int .i64 c]) = Ending.returned (.tuple #[.string a', .string b', .int .i64 c']) := by rw [h1, h2, h3]
theorem ext_pre (r : List UInt8) (n : Nat) : (bs r).extract 0 n = bs (r.take n) := by
  apply bs_ext
  rw [ext_list, bs_list, bs_list]
  simp
theorem bs_append (a : List UInt8) (s : ByteArray) : bs a ++ s = bs (a ++ s.data.toList) := by
  apply bs_ext
  rw [bs_list]
  simp [bs]
theorem i64_and1023 (n : Int) : bits .and .i64 n 1023 = n % 1024 := by
  have h127 : (BitVec.ofInt 64 1023).toNat = 2 ^ 10 - 1 := by decide
  have key : (BitVec.ofInt 64 n &&& BitVec.ofInt 64 1023).toNat = (n % ((2 ^ 64 : Nat) : Int)).toNat % 2 ^ 10 := by
    rw [BitVec.toNat_and, BitVec.toNat_ofInt, h127, Nat.and_two_pow_sub_one_eq_mod]
  show IntKind.i64.wrap ((BitVec.ofInt 64 n &&& BitVec.ofInt 64 1023).toNat : Nat) = n % 1024
  rw [key, IntKind.wrap_i64]
  omega
theorem i64_and1048575 (n : Int) : bits .and .i64 n 1048575 = n % 1048576 := by
  have h127 : (BitVec.ofInt 64 1048575).toNat = 2 ^ 20 - 1 := by decide
  have key : (BitVec.ofInt 64 n &&& BitVec.ofInt 64 1048575).toNat = (n % ((2 ^ 64 : Nat) : Int)).toNat % 2 ^ 20 := by
    rw [BitVec.toNat_and, BitVec.toNat_ofInt, h127, Nat.and_two_pow_sub_one_eq_mod]
  show IntKind.i64.wrap ((BitVec.ofInt 64 n &&& BitVec.ofInt 64 1048575).toNat : Nat) = n % 1048576
  rw [key, IntKind.wrap_i64]
  omega
theorem mod_in {c n : Nat} (h : 0 < n) : 0 ≤ (c : Int) % (n : Int) ∧ (c : Int) % (n : Int) ≤ (n : Int) := by
  have := Nat.mod_lt c h
  rw [← Int.natCast_emod]
  omega
def ints (l : List Nat) : List Value := l.map fun (n : Nat) => Value.int .i64 (n : Int)
theorem ints_len (l : List Nat) : (ints l).length = l.length := by simp [ints]
theorem ints_snoc (l : List Nat) (n : Nat) : ints (l ++ [n]) = ints l ++ [Value.int .i64 (n : Int)] := by simp [ints]
theorem info_int : (Try.prog.info? 3).map (fun i => (i.zero, i.size, i.bytes)) = some (some (.int .i64 0), 1, 8) := by kernel_rfl
theorem grown_of {w w' : World} (h : Below w.heap.size w w') (row : Option Nat) : w.grownBy w' row := ⟨h.os, h.tape, h.output, h.size, fun i hi _ => h.block i hi⟩
theorem own_keep {w w' : World} {B : Nat} {e : TypeId} {v : Value} {n : Nat} {xs : List Value} (h : w.ownsRow B e 1 v n xs) (hb : Below w.heap.size w w') : w'.ownsRow B e 1 v n xs :=
  h.kept (grown_of hb none) (by cases v.ownBlock <;> simp)
theorem wf_i64 {z : Int} (h : (Lit.int .i64 z).wf = true) : -9223372036854775808 ≤ z ∧ z ≤ 9223372036854775807 := by
  simpa [Lit.wf, IntKind.min, IntKind.max, IntKind.signed, IntKind.bits] using h
theorem ints_eq (l : List Nat) : ints l = (l.map fun (n : Nat) => (n : Int)).map (Value.int .i64) := by simp [ints]
theorem bs_join (a b : List UInt8) : bs a ++ bs b = bs (a ++ b) := bs_append a (bs b)
theorem shape3 {α β : Type} (t : α × β × Int) : t = (t.1, t.2.1, t.2.2) := rfl

end Go.Proofs.Ytphnimmhjnhajaa

/-
  Layer 6, plain mathematics: code points and their bytes.
-/
namespace Go.Proofs.Ytphnimmhjnhajaa.M6
open Go.RowKit
set_option linter.unusedVariables false

/-- A code point that may stand in a text. -/
def okc (c : Nat) : Prop := c < 55296 ∨ (57344 ≤ c ∧ c ≤ 1114111)
/-- The bytes of a code point. -/
def enc (c : Nat) : List UInt8 :=
  if c < 128 then [UInt8.ofNat c]
  else if c < 2048 then [UInt8.ofNat (192 + c / 64), UInt8.ofNat (128 + c % 64)]
  else if c < 65536 then [UInt8.ofNat (224 + c / 4096), UInt8.ofNat (128 + c / 64 % 64), UInt8.ofNat (128 + c % 64)]
  else [UInt8.ofNat (240 + c / 262144), UInt8.ofNat (128 + c / 4096 % 64), UInt8.ofNat (128 + c / 64 % 64), UInt8.ofNat (128 + c % 64)]
theorem valid_iff (c : Nat) : Utf8.valid (c : Int) = true ↔ okc c := by
  unfold okc; simp [Utf8.valid]; omega
theorem enc_bs {c : Nat} (h : okc c) : Utf8.encode (c : Int) = bs (enc c) := by
  have hv := (valid_iff c).2 h
  rw [Utf8.encode.eq_1, hv]
  unfold enc
  simp only [if_true, Int.toNat_natCast]
  split
  · rfl
  · split
    · rfl
    · split
      · rfl
      · rfl
def flat (cs : List Nat) : List UInt8 := cs.flatMap enc
theorem flat_cons (c : Nat) (cs : List Nat) : flat (c :: cs) = enc c ++ flat cs := rfl
theorem flat_nil : flat [] = [] := rfl
theorem flat_append (a b : List Nat) : flat (a ++ b) = flat a ++ flat b := by simp [flat]
theorem flat_one (c : Nat) : flat [c] = enc c := by simp [flat]
theorem flat_take (cs : List Nat) (k : Nat) (h : k < cs.length) : flat (cs.take (k + 1)) = flat (cs.take k) ++ enc cs[k] := by
  rw [List.take_succ_eq_append_getElem h, flat_append, flat_one]

/-- The bytes of more than one byte's code point: how many bytes, and what the first tells. -/
def kind (b : Nat) : Option (Nat × Nat) :=
  if 194 ≤ b ∧ b < 224 then some (2, b - 192) else if 224 ≤ b ∧ b < 240 then some (3, b - 224) else if 240 ≤ b ∧ b < 245 then some (4, b - 240) else none
/-- What the bytes behind the first make. -/
def conts : List UInt8 → Nat → Option Nat
  | [], c => some c
  | b :: r, c => if 128 ≤ b.toNat ∧ b.toNat < 192 then conts r (c * 64 + b.toNat - 128) else none
/-- Is it too small for its bytes, or no code point? -/
def wrong (n c : Nat) : Prop := n = 3 ∧ c < 2048 ∨ n = 4 ∧ c < 65536 ∨ c > 1114111 ∨ c ≥ 55296 ∧ c < 57344
instance (n c : Nat) : Decidable (wrong n c) := by unfold wrong; infer_instance
/-- The code point at the head, and how many bytes it has. -/
def pt : List UInt8 → Option (Nat × Nat)
  | [] => none
  | b :: r => if b.toNat < 128 then some (b.toNat, 1) else
    match kind b.toNat with
    | none => none
    | some (n, c0) => if r.length + 1 < n then none else
      match conts (r.take (n - 1)) c0 with
      | none => none
      | some c => if wrong n c then none else some (c, n)

theorem get_bs (l : List UInt8) (k : Nat) : (bs l).get! k = l.getD k 0 := by
  show l.toArray[k]! = _
  simp [List.getD, getElem!_def]
  rfl
theorem dec_drop (l : List UInt8) (i : Nat) (h : i ≤ l.length) : Utf8.decode (bs l) i = Utf8.decode (bs (l.drop i)) 0 := by
  have hg : ∀ k, (bs l).get! (i + k) = (bs (l.drop i)).get! (0 + k) := fun k => by
    rw [get_bs, get_bs, Nat.zero_add]; simp [List.getD, List.getElem?_drop]
  have hs : ∀ k, (i + k < (bs l).size) = (0 + k < (bs (l.drop i)).size) := fun k => by
    rw [bs_size, bs_size, List.length_drop]; apply propext; omega
  simp only [Utf8.decode, hg, hs]

theorem enc1 {c : Nat} (h : c < 128) : enc c = [UInt8.ofNat c] := by
  unfold enc
  rw [if_pos h]
theorem enc2 {c : Nat} (h : 128 ≤ c) (h2 : c < 2048) : enc c = [UInt8.ofNat (192 + c / 64), UInt8.ofNat (128 + c % 64)] := by
  unfold enc
  rw [if_neg (by omega), if_pos h2]
theorem enc3 {c : Nat} (h : 2048 ≤ c) (h2 : c < 65536) : enc c = [UInt8.ofNat (224 + c / 4096), UInt8.ofNat (128 + c / 64 % 64), UInt8.ofNat (128 + c % 64)] := by
  unfold enc
  rw [if_neg (by omega), if_neg (by omega), if_pos h2]
theorem enc4 {c : Nat} (h : 65536 ≤ c) : enc c = [UInt8.ofNat (240 + c / 262144), UInt8.ofNat (128 + c / 4096 % 64), UInt8.ofNat (128 + c / 64 % 64), UInt8.ofNat (128 + c % 64)] := by
  unfold enc
  rw [if_neg (by omega), if_neg (by omega), if_neg (by omega)]
theorem of_eq {b : UInt8} {n : Nat} (h : n = b.toNat) : UInt8.ofNat n = b := by subst h; simp
theorem to_of {n : Nat} (h : n < 256) : (UInt8.ofNat n).toNat = n := by simp; omega

/-- How the model decodes, in bytes of a list. -/
theorem dec_at (b : UInt8) (r : List UInt8) : Utf8.decode (bs (b :: r)) 0 =
    (let at' (k : Nat) : Nat := ((b :: r).getD k 0).toNat
     let cont (k : Nat) : Bool := k < r.length + 1 && at' k / 64 == 2
     let b0 := b.toNat
     if b0 < 0x80 then (b0, 1)
     else if b0 / 32 == 6 && cont 1 then
       let c := (b0 % 32) * 64 + at' 1 % 64
       if c ≥ 0x80 then (c, 2) else (65533, 1)
     else if b0 / 16 == 14 && cont 1 && cont 2 then
       let c := (b0 % 16) * 4096 + (at' 1 % 64) * 64 + at' 2 % 64
       if c ≥ 0x800 && Utf8.valid c then (c, 3) else (65533, 1)
     else if b0 / 8 == 30 && cont 1 && cont 2 && cont 3 then
       let c := (b0 % 8) * 262144 + (at' 1 % 64) * 4096 + (at' 2 % 64) * 64 + at' 3 % 64
       if c ≥ 0x10000 && Utf8.valid c then (c, 4) else (65533, 1)
     else (65533, 1)) := by
  simp only [Utf8.decode, get_bs, bs_size, Nat.zero_add, List.length_cons, Utf8.runeError]
  rfl

/-- Two bytes, as the model decodes them. -/
theorem dec2 (b b1 : UInt8) (r : List UInt8) (hk : 194 ≤ b.toNat ∧ b.toNat < 224) : Utf8.decode (bs (b :: b1 :: r)) 0 =
    if 128 ≤ b1.toNat ∧ b1.toNat < 192 then ((b.toNat - 192) * 64 + b1.toNat - 128, 2) else (65533, 1) := by
  have hb := b.toNat_lt
  have hb1 := b1.toNat_lt
  rw [dec_at]
  have h1 : ¬ b.toNat < 128 := by omega
  have c1 : (b.toNat / 32 == 6) = true := by simp; omega
  have c3 : (b.toNat / 16 == 14) = false := by simp; omega
  have c4 : (b.toNat / 8 == 30) = false := by simp; omega
  simp only [h1, c1, c3, c4, if_false, List.getD_cons_succ, List.getD_cons_zero, List.length_cons, Bool.true_and, Bool.false_and, Bool.false_eq_true]
  by_cases g : 128 ≤ b1.toNat ∧ b1.toNat < 192
  · have c2 : (b1.toNat / 64 == 2) = true := by simp; omega
    refine Eq.trans ?_ (if_pos g).symm
    have hc : b.toNat % 32 * 64 + b1.toNat % 64 = (b.toNat - 192) * 64 + b1.toNat - 128 := by omega
    rw [hc]
    generalize (b.toNat - 192) * 64 + b1.toNat - 128 = c at hc
    simp only [c2, Bool.and_true]
    rw [if_pos (by simp), if_pos (by omega)]
  · have c2 : (b1.toNat / 64 == 2) = false := by simp; omega
    refine Eq.trans ?_ (if_neg g).symm
    simp [c2]
theorem dec2s (b : UInt8) (hk : 194 ≤ b.toNat) : Utf8.decode (bs [b]) 0 = (65533, 1) := by
  rw [dec_at]
  have h1 : ¬ b.toNat < 128 := by omega
  simp [h1]
theorem dec_lone (b : UInt8) (r : List UInt8) (h : 128 ≤ b.toNat) (h2 : b.toNat < 192 ∨ 248 ≤ b.toNat) : Utf8.decode (bs (b :: r)) 0 = (65533, 1) := by
  have hb := b.toNat_lt
  rw [dec_at]
  have h1 : ¬ b.toNat < 128 := by omega
  have c1 : (b.toNat / 32 == 6) = false := by simp; omega
  have c3 : (b.toNat / 16 == 14) = false := by simp; omega
  have c4 : (b.toNat / 8 == 30) = false := by simp; omega
  simp [h1, c1, c3, c4]
/-- 192 and 193: more bytes than there need be. -/
theorem dec_low (b : UInt8) (r : List UInt8) (h : 192 ≤ b.toNat) (h2 : b.toNat < 194) : Utf8.decode (bs (b :: r)) 0 = (65533, 1) := by
  have hb := b.toNat_lt
  rw [dec_at]
  have h1 : ¬ b.toNat < 128 := by omega
  have c1 : (b.toNat / 32 == 6) = true := by simp; omega
  have c3 : (b.toNat / 16 == 14) = false := by simp; omega
  have c4 : (b.toNat / 8 == 30) = false := by simp; omega
  simp only [h1, c1, c3, c4, if_false, Bool.true_and, Bool.false_and, Bool.false_eq_true]
  split
  · rw [if_neg (by omega)]
  · rfl
theorem dec3 (b b1 b2 : UInt8) (r : List UInt8) (hk : 224 ≤ b.toNat ∧ b.toNat < 240) : Utf8.decode (bs (b :: b1 :: b2 :: r)) 0 =
    if (128 ≤ b1.toNat ∧ b1.toNat < 192) ∧ (128 ≤ b2.toNat ∧ b2.toNat < 192) ∧ ¬ wrong 3 (((b.toNat - 224) * 64 + b1.toNat - 128) * 64 + b2.toNat - 128) then (((b.toNat - 224) * 64 + b1.toNat - 128) * 64 + b2.toNat - 128, 3) else (65533, 1) := by
  have hb := b.toNat_lt
  have hb1 := b1.toNat_lt
  have hb2 := b2.toNat_lt
  rw [dec_at]
  have h1 : ¬ b.toNat < 128 := by omega
  have c1 : (b.toNat / 32 == 6) = false := by simp; omega
  have c3 : (b.toNat / 16 == 14) = true := by simp; omega
  have c4 : (b.toNat / 8 == 30) = false := by simp; omega
  simp only [h1, c1, c3, c4, if_false, List.getD_cons_succ, List.getD_cons_zero, List.length_cons, Bool.true_and, Bool.false_and, Bool.false_eq_true]
  by_cases g : 128 ≤ b1.toNat ∧ b1.toNat < 192
  · have d1 : (b1.toNat / 64 == 2) = true := by simp; omega
    by_cases g2 : 128 ≤ b2.toNat ∧ b2.toNat < 192
    · have d2 : (b2.toNat / 64 == 2) = true := by simp; omega
      have hc : b.toNat % 16 * 4096 + b1.toNat % 64 * 64 + b2.toNat % 64 = ((b.toNat - 224) * 64 + b1.toNat - 128) * 64 + b2.toNat - 128 := by omega
      rw [hc]
      generalize ((b.toNat - 224) * 64 + b1.toNat - 128) * 64 + b2.toNat - 128 = c at hc
      have hcl : c < 65536 := by omega
      by_cases hw : wrong 3 c
      · refine Eq.trans ?_ (if_neg (fun h => h.2.2 hw)).symm
        simp only [d1, d2, Bool.and_true]
        rw [if_pos (by simp), if_neg]
        intro hh
        simp only [Bool.and_eq_true, decide_eq_true_eq, valid_iff] at hh
        unfold okc at hh; unfold wrong at hw; omega
      · refine Eq.trans ?_ (if_pos ⟨g, g2, hw⟩).symm
        simp only [d1, d2, Bool.and_true]
        rw [if_pos (by simp), if_pos]
        simp only [Bool.and_eq_true, decide_eq_true_eq, valid_iff]
        unfold okc; unfold wrong at hw; omega
    · have d2 : (b2.toNat / 64 == 2) = false := by simp; omega
      refine Eq.trans ?_ (if_neg (fun h => g2 h.2.1)).symm
      simp [d2]
  · have d1 : (b1.toNat / 64 == 2) = false := by simp; omega
    refine Eq.trans ?_ (if_neg (fun h => g h.1)).symm
    simp [d1]
theorem dec3s (b : UInt8) (r : List UInt8) (hk : 224 ≤ b.toNat) (hr : r.length < 2) : Utf8.decode (bs (b :: r)) 0 = (65533, 1) := by
  have hb := b.toNat_lt
  rw [dec_at]
  have h1 : ¬ b.toNat < 128 := by omega
  have c1 : (b.toNat / 32 == 6) = false := by simp; omega
  have hr2 : ¬ 2 < r.length + 1 := by omega
  simp [h1, c1, hr2]
theorem dec4 (b b1 b2 b3 : UInt8) (r : List UInt8) (hk : 240 ≤ b.toNat ∧ b.toNat < 245) : Utf8.decode (bs (b :: b1 :: b2 :: b3 :: r)) 0 =
    if (128 ≤ b1.toNat ∧ b1.toNat < 192) ∧ (128 ≤ b2.toNat ∧ b2.toNat < 192) ∧ (128 ≤ b3.toNat ∧ b3.toNat < 192) ∧ ¬ wrong 4 ((((b.toNat - 240) * 64 + b1.toNat - 128) * 64 + b2.toNat - 128) * 64 + b3.toNat - 128) then ((((b.toNat - 240) * 64 + b1.toNat - 128) * 64 + b2.toNat - 128) * 64 + b3.toNat - 128, 4) else (65533, 1) := by
  have hb := b.toNat_lt
  have hb1 := b1.toNat_lt
  have hb2 := b2.toNat_lt
  have hb3 := b3.toNat_lt
  rw [dec_at]
  have h1 : ¬ b.toNat < 128 := by omega
  have c1 : (b.toNat / 32 == 6) = false := by simp; omega
  have c3 : (b.toNat / 16 == 14) = false := by simp; omega
  have c4 : (b.toNat / 8 == 30) = true := by simp; omega
  simp only [h1, c1, c3, c4, if_false, List.getD_cons_succ, List.getD_cons_zero, List.length_cons, Bool.true_and, Bool.false_and, Bool.false_eq_true]
  by_cases g : 128 ≤ b1.toNat ∧ b1.toNat < 192
  · have d1 : (b1.toNat / 64 == 2) = true := by simp; omega
    by_cases g2 : 128 ≤ b2.toNat ∧ b2.toNat < 192
    · have d2 : (b2.toNat / 64 == 2) = true := by simp; omega
      by_cases g3 : 128 ≤ b3.toNat ∧ b3.toNat < 192
      · have d3 : (b3.toNat / 64 == 2) = true := by simp; omega
        have hc : b.toNat % 8 * 262144 + b1.toNat % 64 * 4096 + b2.toNat % 64 * 64 + b3.toNat % 64 = (((b.toNat - 240) * 64 + b1.toNat - 128) * 64 + b2.toNat - 128) * 64 + b3.toNat - 128 := by omega
        rw [hc]
        generalize (((b.toNat - 240) * 64 + b1.toNat - 128) * 64 + b2.toNat - 128) * 64 + b3.toNat - 128 = c at hc
        by_cases hw : wrong 4 c
        · refine Eq.trans ?_ (if_neg (fun h => h.2.2.2 hw)).symm
          simp only [d1, d2, d3, Bool.and_true]
          rw [if_pos (by simp), if_neg]
          intro hh
          simp only [Bool.and_eq_true, decide_eq_true_eq, valid_iff] at hh
          unfold okc at hh; unfold wrong at hw; omega
        · refine Eq.trans ?_ (if_pos ⟨g, g2, g3, hw⟩).symm
          simp only [d1, d2, d3, Bool.and_true]
          rw [if_pos (by simp), if_pos]
          simp only [Bool.and_eq_true, decide_eq_true_eq, valid_iff]
          unfold okc; unfold wrong at hw; omega
      · have d3 : (b3.toNat / 64 == 2) = false := by simp; omega
        refine Eq.trans ?_ (if_neg (fun h => g3 h.2.2.1)).symm
        simp [d3]
    · have d2 : (b2.toNat / 64 == 2) = false := by simp; omega
      refine Eq.trans ?_ (if_neg (fun h => g2 h.2.1)).symm
      simp [d2]
  · have d1 : (b1.toNat / 64 == 2) = false := by simp; omega
    refine Eq.trans ?_ (if_neg (fun h => g h.1)).symm
    simp [d1]
theorem dec4s (b : UInt8) (r : List UInt8) (hk : 240 ≤ b.toNat) (hr : r.length < 3) : Utf8.decode (bs (b :: r)) 0 = (65533, 1) := by
  have hb := b.toNat_lt
  rw [dec_at]
  have h1 : ¬ b.toNat < 128 := by omega
  have c1 : (b.toNat / 32 == 6) = false := by simp; omega
  have c3 : (b.toNat / 16 == 14) = false := by simp; omega
  have hr2 : ¬ 3 < r.length + 1 := by omega
  simp [h1, c1, c3, hr2]
/-- 245 to 247: beyond the last. -/
theorem dec_high4 (b : UInt8) (r : List UInt8) (hk : 245 ≤ b.toNat) : Utf8.decode (bs (b :: r)) 0 = (65533, 1) := by
  have hb := b.toNat_lt
  rw [dec_at]
  have h1 : ¬ b.toNat < 128 := by omega
  have c1 : (b.toNat / 32 == 6) = false := by simp; omega
  have c3 : (b.toNat / 16 == 14) = false := by simp; omega
  simp only [h1, c1, c3, if_false, Bool.false_and, Bool.false_eq_true]
  split
  · rename_i hh
    simp only [Bool.and_eq_true, beq_iff_eq] at hh
    rw [if_neg]
    intro h2
    simp only [Bool.and_eq_true, decide_eq_true_eq, valid_iff] at h2
    unfold okc at h2
    omega
  · rfl

/-- The ways that a head can be. -/
theorem pt_ways (l : List UInt8) (hl : l ≠ []) :
    (pt l = none ∧ Utf8.decode (bs l) 0 = (65533, 1)) ∨
    ∃ c n, pt l = some (c, n) ∧ Utf8.decode (bs l) 0 = (c, n) ∧ okc c ∧ l.take n = enc c ∧ 1 ≤ n ∧ n ≤ l.length ∧ (enc c).length = n := by
  match l with
  | [] => exact absurd rfl hl
  | b :: r =>
  have hb := b.toNat_lt
  by_cases h1 : b.toNat < 128
  · refine .inr ⟨b.toNat, 1, by simp [pt, h1], by rw [dec_at]; simp [h1], by unfold okc; omega, by rw [enc1 h1]; simp, by omega, by simp, by rw [enc1 h1]; rfl⟩
  by_cases k2 : 194 ≤ b.toNat ∧ b.toNat < 224
  · have hk : kind b.toNat = some (2, b.toNat - 192) := by unfold kind; rw [if_pos k2]
    match r with
    | [] => exact .inl ⟨by simp [pt, h1, hk], dec2s b k2.1⟩
    | b1 :: r =>
      have hb1 := b1.toNat_lt
      have hd := dec2 b b1 r k2
      by_cases g1 : 128 ≤ b1.toNat ∧ b1.toNat < 192
      · rw [if_pos g1] at hd
        generalize hc : (b.toNat - 192) * 64 + b1.toNat - 128 = c at hd
        have he := enc2 (c := c) (by omega) (by omega)
        refine .inr ⟨c, 2, ?_, hd, by unfold okc; omega, ?_, by omega, by simp, by rw [he]; rfl⟩
        · simp only [pt, if_neg h1, hk]
          rw [if_neg (by simp)]
          simp only [Nat.reduceSub, List.take_succ_cons, List.take_zero, conts, if_pos g1, hc]
          rw [if_neg (by unfold wrong; omega)]
        · rw [he, of_eq (b := b) (by omega), of_eq (b := b1) (by omega)]; rfl
      · rw [if_neg g1] at hd
        refine .inl ⟨?_, hd⟩
        simp only [pt, if_neg h1, hk]
        rw [if_neg (by simp)]
        simp only [Nat.reduceSub, List.take_succ_cons, List.take_zero, conts, if_neg g1]
  by_cases k3 : 224 ≤ b.toNat ∧ b.toNat < 240
  · have hk : kind b.toNat = some (3, b.toNat - 224) := by unfold kind; rw [if_neg k2, if_pos k3]
    match r with
    | [] => exact .inl ⟨by simp [pt, h1, hk], dec3s b _ k3.1 (by simp)⟩
    | [b1] => exact .inl ⟨by simp [pt, h1, hk], dec3s b _ k3.1 (by simp)⟩
    | b1 :: b2 :: r =>
      have hb1 := b1.toNat_lt
      have hb2 := b2.toNat_lt
      have hd := dec3 b b1 b2 r k3
      have hp : pt (b :: b1 :: b2 :: r) = if 128 ≤ b1.toNat ∧ b1.toNat < 192 then (if 128 ≤ b2.toNat ∧ b2.toNat < 192 then (if wrong 3 (((b.toNat - 224) * 64 + b1.toNat - 128) * 64 + b2.toNat - 128) then none else some (((b.toNat - 224) * 64 + b1.toNat - 128) * 64 + b2.toNat - 128, 3)) else none) else none := by
        simp only [pt, if_neg h1, hk]
        rw [if_neg (by simp)]
        simp only [Nat.reduceSub, List.take_succ_cons, List.take_zero, conts]
        by_cases g1 : 128 ≤ b1.toNat ∧ b1.toNat < 192
        · by_cases g2 : 128 ≤ b2.toNat ∧ b2.toNat < 192
          · simp only [if_pos g1, if_pos g2]
          · simp only [if_pos g1, if_neg g2]
        · simp only [if_neg g1]
      by_cases g1 : 128 ≤ b1.toNat ∧ b1.toNat < 192
      · by_cases g2 : 128 ≤ b2.toNat ∧ b2.toNat < 192
        · rw [if_pos g1, if_pos g2] at hp
          generalize hc : ((b.toNat - 224) * 64 + b1.toNat - 128) * 64 + b2.toNat - 128 = c at hd hp
          by_cases hw : wrong 3 c
          · rw [if_pos hw] at hp
            rw [if_neg (fun h => h.2.2 hw)] at hd
            exact .inl ⟨hp, hd⟩
          · rw [if_neg hw] at hp
            rw [if_pos ⟨g1, g2, hw⟩] at hd
            unfold wrong at hw
            have he := enc3 (c := c) (by omega) (by omega)
            refine .inr ⟨c, 3, hp, hd, by unfold okc; omega, ?_, by omega, by simp, by rw [he]; rfl⟩
            rw [he, of_eq (b := b) (by omega), of_eq (b := b1) (by omega), of_eq (b := b2) (by omega)]; rfl
        · rw [if_pos g1, if_neg g2] at hp
          rw [if_neg (fun h => g2 h.2.1)] at hd
          exact .inl ⟨hp, hd⟩
      · rw [if_neg g1] at hp
        rw [if_neg (fun h => g1 h.1)] at hd
        exact .inl ⟨hp, hd⟩
  by_cases k4 : 240 ≤ b.toNat ∧ b.toNat < 245
  · have hk : kind b.toNat = some (4, b.toNat - 240) := by unfold kind; rw [if_neg k2, if_neg k3, if_pos k4]
    match r with
    | [] => exact .inl ⟨by simp [pt, h1, hk], dec4s b _ k4.1 (by simp)⟩
    | [b1] => exact .inl ⟨by simp [pt, h1, hk], dec4s b _ k4.1 (by simp)⟩
    | [b1, b2] => exact .inl ⟨by simp [pt, h1, hk], dec4s b _ k4.1 (by simp)⟩
    | b1 :: b2 :: b3 :: r =>
      have hb1 := b1.toNat_lt
      have hb2 := b2.toNat_lt
      have hb3 := b3.toNat_lt
      have hd := dec4 b b1 b2 b3 r k4
      have hp : pt (b :: b1 :: b2 :: b3 :: r) = if 128 ≤ b1.toNat ∧ b1.toNat < 192 then (if 128 ≤ b2.toNat ∧ b2.toNat < 192 then (if 128 ≤ b3.toNat ∧ b3.toNat < 192 then (if wrong 4 ((((b.toNat - 240) * 64 + b1.toNat - 128) * 64 + b2.toNat - 128) * 64 + b3.toNat - 128) then none else some ((((b.toNat - 240) * 64 + b1.toNat - 128) * 64 + b2.toNat - 128) * 64 + b3.toNat - 128, 4)) else none) else none) else none := by
        simp only [pt, if_neg h1, hk]
        rw [if_neg (by simp)]
        simp only [Nat.reduceSub, List.take_succ_cons, List.take_zero, conts]
        by_cases g1 : 128 ≤ b1.toNat ∧ b1.toNat < 192
        · by_cases g2 : 128 ≤ b2.toNat ∧ b2.toNat < 192
          · by_cases g3 : 128 ≤ b3.toNat ∧ b3.toNat < 192
            · simp only [if_pos g1, if_pos g2, if_pos g3]
            · simp only [if_pos g1, if_pos g2, if_neg g3]
          · simp only [if_pos g1, if_neg g2]
        · simp only [if_neg g1]
      by_cases g1 : 128 ≤ b1.toNat ∧ b1.toNat < 192
      · by_cases g2 : 128 ≤ b2.toNat ∧ b2.toNat < 192
        · by_cases g3 : 128 ≤ b3.toNat ∧ b3.toNat < 192
          · rw [if_pos g1, if_pos g2, if_pos g3] at hp
            generalize hc : (((b.toNat - 240) * 64 + b1.toNat - 128) * 64 + b2.toNat - 128) * 64 + b3.toNat - 128 = c at hd hp
            by_cases hw : wrong 4 c
            · rw [if_pos hw] at hp
              rw [if_neg (fun h => h.2.2.2 hw)] at hd
              exact .inl ⟨hp, hd⟩
            · rw [if_neg hw] at hp
              rw [if_pos ⟨g1, g2, g3, hw⟩] at hd
              unfold wrong at hw
              have he := enc4 (c := c) (by omega)
              refine .inr ⟨c, 4, hp, hd, by unfold okc; omega, ?_, by omega, by simp, by rw [he]; rfl⟩
              rw [he, of_eq (b := b) (by omega), of_eq (b := b1) (by omega), of_eq (b := b2) (by omega), of_eq (b := b3) (by omega)]; rfl
          · rw [if_pos g1, if_pos g2, if_neg g3] at hp
            rw [if_neg (fun h => g3 h.2.2.1)] at hd
            exact .inl ⟨hp, hd⟩
        · rw [if_pos g1, if_neg g2] at hp
          rw [if_neg (fun h => g2 h.2.1)] at hd
          exact .inl ⟨hp, hd⟩
      · rw [if_neg g1] at hp
        rw [if_neg (fun h => g1 h.1)] at hd
        exact .inl ⟨hp, hd⟩
  have hk : kind b.toNat = none := by unfold kind; rw [if_neg k2, if_neg k3, if_neg k4]
  refine .inl ⟨by simp [pt, h1, hk], ?_⟩
  by_cases h5 : 245 ≤ b.toNat
  · exact dec_high4 b r h5
  by_cases h6 : b.toNat < 192
  · exact dec_lone b r (by omega) (.inl h6)
  · exact dec_low b r (by omega) (by omega)

/-- Where no code point stands, neither does the one that says so. -/
theorem pt_none_pre {l : List UInt8} (h : pt l = none) : ¬ l.take 3 = [239, 191, 189] := by
  intro h3
  match l, h3 with
  | b :: b1 :: b2 :: r, h3 =>
    simp at h3
    obtain ⟨rfl, rfl, rfl⟩ := h3
    have : pt (239 :: 191 :: 189 :: r) = some (65533, 3) := by
      show pt (239 :: 191 :: 189 :: r) = _
      simp [pt, kind, conts, wrong]
    rw [this] at h
    cases h
theorem enc_fffd : enc 65533 = [239, 191, 189] := by
  rw [enc3 (by omega) (by omega)]; decide
/-- Each code point's bytes are read as it. -/
theorem pt_enc {c : Nat} (h : okc c) (r : List UInt8) : pt (enc c ++ r) = some (c, (enc c).length) := by
  unfold okc at h
  by_cases h1 : c < 128
  · rw [enc1 h1]
    have t := to_of (n := c) (by omega)
    simp only [List.cons_append, List.nil_append, pt, t, if_pos h1, List.length_cons, List.length_nil]
  by_cases h2 : c < 2048
  · rw [enc2 (by omega) h2]
    have t := to_of (n := 192 + c / 64) (by omega)
    have t1 := to_of (n := 128 + c % 64) (by omega)
    have hk : kind (192 + c / 64) = some (2, 192 + c / 64 - 192) := by unfold kind; rw [if_pos (by omega)]
    simp only [List.cons_append, List.nil_append, pt, t, List.length_cons, List.length_nil, hk]
    rw [if_neg (by omega), if_neg (by omega)]
    simp only [Nat.reduceSub, List.take_succ_cons, List.take_zero, conts, t1]
    rw [if_pos (by omega)]
    simp only
    rw [if_neg (by unfold wrong; omega), show (192 + c / 64 - 192) * 64 + (128 + c % 64) - 128 = c by omega]
  by_cases h3 : c < 65536
  · rw [enc3 (by omega) h3]
    have t := to_of (n := 224 + c / 4096) (by omega)
    have t1 := to_of (n := 128 + c / 64 % 64) (by omega)
    have t2 := to_of (n := 128 + c % 64) (by omega)
    have hk : kind (224 + c / 4096) = some (3, 224 + c / 4096 - 224) := by unfold kind; rw [if_neg (by omega), if_pos (by omega)]
    simp only [List.cons_append, List.nil_append, pt, t, List.length_cons, List.length_nil, hk]
    rw [if_neg (by omega), if_neg (by omega)]
    simp only [Nat.reduceSub, List.take_succ_cons, List.take_zero, conts, t1, t2]
    rw [if_pos (by omega), if_pos (by omega)]
    simp only
    have e : ((224 + c / 4096 - 224) * 64 + (128 + c / 64 % 64) - 128) * 64 + (128 + c % 64) - 128 = c := by omega
    rw [e, if_neg (by unfold wrong; omega)]
  · rw [enc4 (by omega)]
    have t := to_of (n := 240 + c / 262144) (by omega)
    have t1 := to_of (n := 128 + c / 4096 % 64) (by omega)
    have t2 := to_of (n := 128 + c / 64 % 64) (by omega)
    have t3 := to_of (n := 128 + c % 64) (by omega)
    have hk : kind (240 + c / 262144) = some (4, 240 + c / 262144 - 240) := by unfold kind; rw [if_neg (by omega), if_neg (by omega), if_pos (by omega)]
    simp only [List.cons_append, List.nil_append, pt, t, List.length_cons, List.length_nil, hk]
    rw [if_neg (by omega), if_neg (by omega)]
    simp only [Nat.reduceSub, List.take_succ_cons, List.take_zero, conts, t1, t2, t3]
    rw [if_pos (by omega), if_pos (by omega), if_pos (by omega)]
    simp only
    have e : (((240 + c / 262144 - 240) * 64 + (128 + c / 4096 % 64) - 128) * 64 + (128 + c / 64 % 64) - 128) * 64 + (128 + c % 64) - 128 = c := by omega
    rw [e, if_neg (by unfold wrong; omega)]
theorem enc_pos (c : Nat) : 1 ≤ (enc c).length ∧ (enc c).length ≤ 4 := by
  unfold enc
  split
  · simp
  · split
    · simp
    · split <;> simp

/-- Code points, and what stands behind them: nothing, or what is none. -/
structure Reads (l : List UInt8) (cs : List Nat) (r : List UInt8) : Prop where
  split : l = flat cs ++ r
  ok : ∀ c ∈ cs, okc c
  stuck : pt r = none
theorem reads : ∀ (n : Nat) (l : List UInt8), l.length ≤ n → ∃ cs r, Reads l cs r := by
  intro n
  induction n with
  | zero => intro l h; exact ⟨[], l, rfl, by simp, by rw [List.eq_nil_of_length_eq_zero (l := l) (by omega)]; rfl⟩
  | succ n ih =>
    intro l h
    by_cases hl : l = []
    · exact ⟨[], l, rfl, by simp, by rw [hl]; rfl⟩
    · rcases pt_ways l hl with ⟨h1, _⟩ | ⟨c, k, h1, _, hv, ht, hk, hkl, _⟩
      · exact ⟨[], l, rfl, by simp, h1⟩
      · obtain ⟨cs, r, h2, h3, h4⟩ := ih (l.drop k) (by rw [List.length_drop]; omega)
        refine ⟨c :: cs, r, ?_, by simpa using ⟨hv, h3⟩, h4⟩
        rw [flat_cons, List.append_assoc, ← h2, ← ht, List.take_append_drop]

/-- What a step of decoding gives at a place of a text. -/
theorem Reads.at {l r : List UInt8} {cs : List Nat} (h : Reads l cs r) {k : Nat} (hk : k < cs.length) :
    l.drop (flat (cs.take k)).length = enc cs[k] ++ (flat (cs.drop (k + 1)) ++ r) ∧ (flat (cs.take k)).length < l.length := by
  have e : l = flat (cs.take k) ++ (enc cs[k] ++ (flat (cs.drop (k + 1)) ++ r)) := by
    rw [h.split]
    conv => lhs; rw [← List.take_append_drop k cs, List.drop_eq_getElem_cons hk]
    rw [flat_append, flat_cons]; simp
  refine ⟨by conv => lhs; rw [e, List.drop_left], ?_⟩
  have := congrArg List.length e
  have := enc_pos cs[k]
  simp only [List.length_append] at *
  omega
theorem Reads.dec {l r : List UInt8} {cs : List Nat} (h : Reads l cs r) {k : Nat} (hk : k < cs.length) :
    Utf8.decode (bs l) (flat (cs.take k)).length = (cs[k], (enc cs[k]).length) := by
  obtain ⟨h1, h2⟩ := h.at hk
  rw [dec_drop _ _ (by omega), h1]
  have hv := h.ok _ (List.getElem_mem hk)
  have hne : enc cs[k] ++ (flat (cs.drop (k + 1)) ++ r) ≠ [] := by
    intro h; have := congrArg List.length h; have := enc_pos cs[k]; simp only [List.length_append, List.length_nil] at *; omega
  rcases pt_ways _ hne with ⟨g, _⟩ | ⟨c, n, g, g2, _⟩
  · rw [pt_enc hv] at g; cases g
  · rw [pt_enc hv] at g; injection g with g; rw [g2, ← g]
theorem Reads.dec_end {l r : List UInt8} {cs : List Nat} (h : Reads l cs r) (hr : r ≠ []) :
    Utf8.decode (bs l) (flat cs).length = (65533, 1) ∧ ¬ (l.drop (flat cs).length).take 3 = [239, 191, 189] ∧ (flat cs).length < l.length := by
  have e : l.drop (flat cs).length = r := by rw [h.split, List.drop_left]
  have hl : l.length = (flat cs).length + r.length := by rw [h.split, List.length_append]
  have hp : 0 < r.length := List.length_pos_iff.2 hr
  refine ⟨?_, by rw [e]; exact pt_none_pre h.stuck, by omega⟩
  rw [dec_drop _ _ (by omega), e]
  rcases pt_ways r hr with ⟨_, g⟩ | ⟨c, n, g, _⟩
  · exact g
  · rw [h.stuck] at g; cases g
theorem Reads.pre {l r : List UInt8} {cs : List Nat} (h : Reads l cs r) {k : Nat} (hk : k < cs.length) (hf : cs[k] = 65533) :
    (l.drop (flat (cs.take k)).length).take 3 = [239, 191, 189] := by
  rw [(h.at hk).1, hf, enc_fffd]; rfl
theorem reads_flat {cs : List Nat} (h : ∀ c ∈ cs, okc c) : Reads (flat cs) cs [] := ⟨by simp, h, rfl⟩
theorem flat_len_le {cs : List Nat} : cs.length ≤ (flat cs).length := by
  induction cs with
  | nil => simp
  | cons c cs ih => rw [flat_cons, List.length_append, List.length_cons]; have := enc_pos c; omega
theorem flat_len_ge {cs : List Nat} : (flat cs).length ≤ 4 * cs.length := by
  induction cs with
  | nil => simp [flat]
  | cons c cs ih => rw [flat_cons, List.length_append, List.length_cons]; have := enc_pos c; omega

end Go.Proofs.Ytphnimmhjnhajaa.M6

/-
  Layer 7, plain mathematics: names, what is seen, paths and their pieces. Nothing here speaks of a program.
-/
namespace Go.Proofs.Ytphnimmhjnhajaa.M7
open Go.Lib M5
set_option linter.unusedVariables false

/-- The bytes of names. -/
def signs : List UInt8 := [65, 66, 67, 68, 69, 70, 71, 72, 73, 74, 75, 76, 77, 78, 79, 80, 81, 82, 83, 84, 85, 86, 87, 88, 89, 90, 97, 98, 99, 100, 101, 102, 103, 104, 105, 106, 107, 108, 109, 110, 111, 112, 113, 114, 115, 116, 117, 118, 119, 120, 121, 122, 48, 49, 50, 51, 52, 53, 54, 55, 56, 57, 46, 45, 95]
def sign (c : UInt8) : Bool := signs.contains c
theorem sign_all : ∀ n : Fin 256, signs.contains (UInt8.ofNat n.val) = decide ((48 ≤ n.val ∧ n.val ≤ 57) ∨ (65 ≤ n.val ∧ n.val ≤ 90) ∨ (97 ≤ n.val ∧ n.val ≤ 122) ∨ n.val = 46 ∨ n.val = 45 ∨ n.val = 95) := by decide +kernel
theorem sign_iff (c : UInt8) : sign c = true ↔ (48 ≤ c.toNat ∧ c.toNat ≤ 57) ∨ (65 ≤ c.toNat ∧ c.toNat ≤ 90) ∨ (97 ≤ c.toNat ∧ c.toNat ≤ 122) ∨ c.toNat = 46 ∨ c.toNat = 45 ∨ c.toNat = 95 := by
  have h := sign_all ⟨c.toNat, c.toNat_lt⟩
  have hc : UInt8.ofNat c.toNat = c := by simp
  simp only [hc] at h
  unfold sign
  rw [h, decide_eq_true_eq]
theorem sign_tilde : sign 126 = false := by decide +kernel
theorem sign_slash : sign 47 = false := by decide +kernel

def nameB (l : List UInt8) : Bool := decide (l ≠ [] ∧ l.length ≤ 32 ∧ l ≠ [46] ∧ l ≠ [46, 46]) && l.all sign
theorem nameB_iff {l : List UInt8} : nameB l = true ↔ (l ≠ [] ∧ l.length ≤ 32 ∧ l ≠ [46] ∧ l ≠ [46, 46]) ∧ ∀ c ∈ l, sign c = true := by
  simp [nameB]
theorem nameB_bad {l : List UInt8} {k : Nat} (hk : k < l.length) (h : sign l[k] = false) : nameB l = false := by
  cases hn : nameB l with
  | false => rfl
  | true =>
    have := (nameB_iff.1 hn).2 l[k] (List.getElem_mem hk)
    rw [h] at this; cases this
theorem nameB_good {l : List UInt8} (h1 : l ≠ []) (h2 : l.length ≤ 32) (h3 : l ≠ [46]) (h4 : l ≠ [46, 46]) (h : ∀ k (hk : k < l.length), sign l[k] = true) : nameB l = true := by
  refine nameB_iff.2 ⟨⟨h1, h2, h3, h4⟩, fun c hc => ?_⟩
  obtain ⟨k, hk, rfl⟩ := List.getElem_of_mem hc
  exact h k hk
theorem nameB_not {l : List UInt8} (h : l = [] ∨ 32 < l.length ∨ l = [46] ∨ l = [46, 46]) : nameB l = false := by
  cases hn : nameB l with
  | false => rfl
  | true =>
    obtain ⟨⟨h1, h2, h3, h4⟩, _⟩ := nameB_iff.1 hn
    rcases h with h | h | h | h
    · exact absurd h h1
    · omega
    · exact absurd h h3
    · exact absurd h h4
theorem name_no {l : List UInt8} (h : nameB l = true) {c : UInt8} (hc : sign c = false) : c ∉ l := fun hm => by
  have := (nameB_iff.1 h).2 c hm
  rw [hc] at this; cases this
theorem name_len {l : List UInt8} (h : nameB l = true) : l.length ≤ 32 := (nameB_iff.1 h).1.2.1

/-! ### Cut at the first of a byte -/
def cutB (x : UInt8) : List UInt8 → Option (List UInt8 × List UInt8)
  | [] => none
  | c :: r => if c == x then some ([], r) else (cutB x r).map fun p => (c :: p.1, p.2)
theorem cutB_index (x : UInt8) : ∀ (l : List UInt8), (cutB x l = none ∧ indexByte l x = -1) ∨ ∃ m : Nat, indexByte l x = (m : Int) ∧ m < l.length ∧ cutB x l = some (l.take m, l.drop (m + 1)) := by
  intro l
  induction l with
  | nil => exact .inl ⟨rfl, rfl⟩
  | cons c r ih =>
    by_cases hc : (c == x) = true
    · refine .inr ⟨0, ?_, by simp, ?_⟩
      · simp [indexByte, hc]
      · simp [cutB, hc]
    · have hc' : (c == x) = false := by simpa using hc
      rcases ih with ⟨h1, h2⟩ | ⟨m, h1, h2, h3⟩
      · refine .inl ⟨?_, ?_⟩
        · simp [cutB, hc', h1]
        · simp [indexByte, hc', h2]
      · refine .inr ⟨m + 1, ?_, by simpa using h2, ?_⟩
        · have : ¬ ((m : Int) == -1) = true := by simp
          simp only [indexByte, hc', h1, if_neg this]
          simp
        · simp [cutB, hc', h3]
theorem cutB_some {x : UInt8} : ∀ {l a b : List UInt8}, cutB x l = some (a, b) → l = a ++ x :: b ∧ x ∉ a := by
  intro l
  induction l with
  | nil => intro a b h; cases h
  | cons c r ih =>
    intro a b h
    simp only [cutB] at h
    split at h
    · rename_i hc
      have : c = x := by simpa using hc
      subst this
      injection h with h; injection h with h1 h2
      subst h1; subst h2; exact ⟨rfl, by simp⟩
    · rename_i hc
      obtain ⟨⟨p, q⟩, h1, h2⟩ := Option.map_eq_some_iff.1 h
      simp only [Prod.mk.injEq] at h2
      obtain ⟨rfl, rfl⟩ := h2
      obtain ⟨h3, h4⟩ := ih h1
      refine ⟨by rw [h3]; rfl, fun hm => ?_⟩
      rcases List.mem_cons.1 hm with rfl | hm
      · simp at hc
      · exact h4 hm
theorem cutB_app {x : UInt8} : ∀ (a b : List UInt8), x ∉ a → cutB x (a ++ x :: b) = some (a, b) := by
  intro a
  induction a with
  | nil => intro b _; simp [cutB]
  | cons c a ih =>
    intro b h
    have hne : (c == x) = false := by
      simp only [beq_eq_false_iff_ne, ne_eq]
      rintro rfl
      exact h (by simp)
    simp [cutB, hne, ih b (fun hm => h (by simp [hm]))]
theorem cutB_not {x : UInt8} : ∀ (a : List UInt8), x ∉ a → cutB x a = none := by
  intro a
  induction a with
  | nil => intro _; rfl
  | cons c a ih =>
    intro h
    have hne : (c == x) = false := by
      simp only [beq_eq_false_iff_ne, ne_eq]
      rintro rfl
      exact h (by simp)
    simp [cutB, hne, ih (fun hm => h (by simp [hm]))]
theorem cutB_none {x : UInt8} : ∀ {a : List UInt8}, cutB x a = none → x ∉ a := by
  intro a h hm
  obtain ⟨p, q, rfl⟩ := List.append_of_mem hm
  rcases cutB_index x (p ++ x :: q) with ⟨_, h2⟩ | ⟨m, _, _, h3⟩
  · have : ∀ p : List UInt8, indexByte (p ++ x :: q) x ≠ -1 := by
      intro p
      induction p with
      | nil => simp [indexByte]
      | cons c p ih =>
        simp only [List.cons_append, indexByte]
        split
        · simp
        · have hge := indexByte_ge (p ++ x :: q) x
          rw [if_neg (by simpa using ih)]
          omega
    exact this p h2
  · rw [h] at h3; cases h3

/-! ### What is seen -/
def seenB (l : List UInt8) : Bool :=
  match cutB 126 l with
  | none => nameB l
  | some (a, b) => nameB a && (parseR b).isSome
theorem seen_name {l : List UInt8} (h : cutB 126 l = none) : seenB l = nameB l := by unfold seenB; rw [h]
theorem seen_cut {l a b : List UInt8} (h : cutB 126 l = some (a, b)) : seenB l = (nameB a && (parseR b).isSome) := by unfold seenB; rw [h]
theorem textR_len (t r i : Int) : (textR t r i).length ≤ 23 := by
  by_cases h : rightId t r i = true
  · have hb := rightId_iff.1 h
    rw [textR_right h]
    exact idText_len (by omega) (by omega) (by omega)
  · rw [textR_wrong (by simpa using h)]; simp
theorem dig_no {c : UInt8} (h : dig c = true) : c ≠ 47 ∧ c ≠ 126 := by
  have := dig_iff.1 h
  constructor
  · rintro rfl; revert this; decide
  · rintro rfl; revert this; decide
theorem textR_no (t r i : Int) : (47 : UInt8) ∉ textR t r i := by
  by_cases h : rightId t r i = true
  · rw [textR_right h]
    unfold idText
    simp only [List.mem_append, List.mem_cons, not_or]
    exact ⟨fun hm => (dig_no (dec_dig _ _ hm)).1 rfl, by decide, fun hm => (dig_no (dec_dig _ _ hm)).1 rfl, by decide, fun hm => (dig_no (dec_dig _ _ hm)).1 rfl⟩
  · rw [textR_wrong (by simpa using h)]; simp
theorem seen_parts {l : List UInt8} (h : seenB l = true) : l.length ≤ 60 ∧ (47 : UInt8) ∉ l ∧ l ≠ [] := by
  cases hc : cutB 126 l with
  | none =>
    rw [seen_name hc] at h
    exact ⟨by have := name_len h; omega, name_no h sign_slash, (nameB_iff.1 h).1.1⟩
  | some p =>
    obtain ⟨a, b⟩ := p
    rw [seen_cut hc, Bool.and_eq_true] at h
    obtain ⟨h1, h2⟩ := h
    obtain ⟨⟨t, r, i⟩, hp⟩ := Option.isSome_iff_exists.1 h2
    obtain ⟨_, rfl⟩ := parseR_some.1 hp
    obtain ⟨rfl, _⟩ := cutB_some hc
    have hl := name_len h1
    have hl2 := textR_len t r i
    refine ⟨by simp only [List.length_append, List.length_cons]; omega, ?_, by simp⟩
    simp only [List.mem_append, List.mem_cons, not_or]
    exact ⟨name_no h1 sign_slash, by decide, textR_no t r i⟩
theorem clash_seen {s : List UInt8} {t r i : Int} (hs : nameB s = true) (hx : rightId t r i = true) : seenB (s ++ 126 :: textR t r i) = true ∧ nameB (s ++ 126 :: textR t r i) = false := by
  constructor
  · rw [seen_cut (cutB_app s (textR t r i) (name_no hs sign_tilde)), hs, parseR_text hx]; rfl
  · cases hn : nameB (s ++ 126 :: textR t r i) with
    | false => rfl
    | true => exact absurd (by simp) (name_no hn sign_tilde)
theorem clash_eq {s u : List UInt8} {t r i t' r' i' : Int} (hs : nameB s = true) (hu : nameB u = true) (hx : rightId t r i = true) (hy : rightId t' r' i' = true) :
    s ++ 126 :: textR t r i = u ++ 126 :: textR t' r' i' ↔ s = u ∧ t = t' ∧ r = r' ∧ i = i' := by
  constructor
  · intro h
    have h1 := cutB_app s (textR t r i) (name_no hs sign_tilde)
    have h2 := cutB_app u (textR t' r' i') (name_no hu sign_tilde)
    rw [h] at h1
    rw [h1] at h2
    injection h2 with h2; injection h2 with h3 h4
    have h5 := parseR_text hx
    rw [h4, parseR_text hy] at h5
    injection h5 with h5; injection h5 with h6 h7; injection h7 with h7 h8
    exact ⟨h3, h6.symm, h7.symm, h8.symm⟩
  · rintro ⟨rfl, rfl, rfl, rfl⟩; rfl

/-! ### Clash -/
def clashR (s : List UInt8) (t r i : Int) : List UInt8 × Int :=
  if nameB s = false then ([], 70) else if rightId t r i = false then ([], 1) else (s ++ 126 :: textR t r i, 0)
theorem clashR_name {s : List UInt8} {t r i : Int} (h : nameB s = false) : clashR s t r i = ([], 70) := by unfold clashR; rw [if_pos h]
theorem clashR_id {s : List UInt8} {t r i : Int} (h : nameB s = true) (h2 : rightId t r i = false) : clashR s t r i = ([], 1) := by unfold clashR; rw [if_neg (by simp [h]), if_pos h2]
theorem clashR_ok {s : List UInt8} {t r i : Int} (h : nameB s = true) (h2 : rightId t r i = true) : clashR s t r i = (s ++ 126 :: textR t r i, 0) := by unfold clashR; rw [if_neg (by simp [h]), if_neg (by simp [h2])]
theorem textR_nil {t r i : Int} : textR t r i = [] ↔ rightId t r i = false := by
  constructor
  · intro h
    cases hr : rightId t r i with
    | false => rfl
    | true => rw [textR_right hr] at h; exact absurd h (idText_ne _ _ _)
  · exact textR_wrong

/-! ### Pieces -/
def piecesN : Nat → List UInt8 → List (List UInt8)
  | 0, l => [l]
  | n + 1, l => match cutB 47 l with | none => [l] | some (a, b) => a :: piecesN n b
def pieces (l : List UInt8) : List (List UInt8) := piecesN l.length l
theorem piecesN_more : ∀ (j k : Nat) (l : List UInt8), l.length ≤ j → l.length ≤ k → piecesN j l = piecesN k l := by
  intro j
  induction j with
  | zero =>
    intro k l hj hk
    have : l = [] := List.length_eq_zero_iff.1 (by omega)
    subst this
    cases k <;> rfl
  | succ j ih =>
    intro k l hj hk
    cases hc : cutB 47 l with
    | none => cases k <;> simp [piecesN, hc]
    | some p =>
      obtain ⟨a, b⟩ := p
      have hl := congrArg List.length (cutB_some hc).1
      simp only [List.length_append, List.length_cons] at hl
      cases k with
      | zero => omega
      | succ k =>
        simp only [piecesN, hc]
        rw [ih k b (by omega) (by omega)]
theorem pieces_none {l : List UInt8} (h : cutB 47 l = none) : pieces l = [l] := by
  unfold pieces
  cases l.length <;> simp [piecesN, h]
theorem pieces_some {l a b : List UInt8} (h : cutB 47 l = some (a, b)) : pieces l = a :: pieces b := by
  have hl := congrArg List.length (cutB_some h).1
  simp only [List.length_append, List.length_cons] at hl
  unfold pieces
  cases hn : l.length with
  | zero => omega
  | succ n =>
    simp only [piecesN, h]
    rw [piecesN_more n b.length b (by omega) (Nat.le_refl _)]
theorem pieces_ne (l : List UInt8) : pieces l ≠ [] := by
  cases h : cutB 47 l with
  | none => rw [pieces_none h]; simp
  | some p => obtain ⟨a, b⟩ := p; rw [pieces_some h]; simp
/-- '/' ahead of each. -/
def ahead (l : List (List UInt8)) : List UInt8 := l.flatMap fun x => 47 :: x
theorem ahead_nil : ahead [] = [] := rfl
theorem ahead_cons (a : List UInt8) (l : List (List UInt8)) : ahead (a :: l) = 47 :: (a ++ ahead l) := rfl
theorem ahead_append (a b : List (List UInt8)) : ahead (a ++ b) = ahead a ++ ahead b := by simp [ahead]
theorem pieces_ahead : ∀ (n : Nat) (l : List UInt8), l.length ≤ n → ahead (pieces l) = 47 :: l := by
  intro n
  induction n with
  | zero =>
    intro l h
    have : l = [] := List.length_eq_zero_iff.1 (by omega)
    subst this
    rfl
  | succ n ih =>
    intro l h
    cases hc : cutB 47 l with
    | none => rw [pieces_none hc, ahead_cons, ahead_nil, List.append_nil]
    | some p =>
      obtain ⟨a, b⟩ := p
      have hl := (cutB_some hc).1
      have hl2 := congrArg List.length hl
      simp only [List.length_append, List.length_cons] at hl2
      rw [pieces_some hc, ahead_cons, ih b (by omega), hl]
theorem pieces_of : ∀ (l : List (List UInt8)) (a : List UInt8), (∀ x ∈ a :: l, (47 : UInt8) ∉ x) → pieces (a ++ ahead l) = a :: l := by
  intro l
  induction l with
  | nil =>
    intro a h
    rw [ahead_nil, List.append_nil, pieces_none (cutB_not a (h a (by simp)))]
  | cons b l ih =>
    intro a h
    rw [ahead_cons, pieces_some (cutB_app a (b ++ ahead l) (h a (by simp))), ih b (fun x hx => h x (by simp only [List.mem_cons] at hx ⊢; exact .inr hx))]
def joinR (l : List (List UInt8)) : List UInt8 := if l = [] then [47] else ahead l
theorem joinR_nil : joinR [] = [47] := rfl
theorem joinR_cons (a : List UInt8) (l : List (List UInt8)) : joinR (a :: l) = ahead (a :: l) := by unfold joinR; rw [if_neg (by simp)]
theorem joinTail_ahead : ∀ (l : List (List UInt8)), joinTail [47] l = ahead l := by
  intro l; simp [joinTail, ahead, List.flatMap]
theorem join_joinR (l : List (List UInt8)) : 47 :: join l [47] = joinR l := by
  cases l with
  | nil => rfl
  | cons a l => rw [join_cons, joinTail_ahead, joinR_cons, ahead_cons]
/-- What Split answers. -/
def splitP (p : List UInt8) : List (List UInt8) × Int :=
  if p = [47] then ([], 0) else match p with
  | [] => ([], 71)
  | c :: r => if c = 47 then (if (pieces r).all seenB = false then ([], 70) else if 20 < (pieces r).length then ([], 2) else (pieces r, 0)) else ([], 71)
theorem splitP_one : splitP [47] = ([], 0) := rfl
theorem splitP_nil : splitP [] = ([], 71) := rfl
theorem splitP_not {c : UInt8} {r : List UInt8} (h : c ≠ 47) : splitP (c :: r) = ([], 71) := by
  unfold splitP
  rw [if_neg (by intro e; injection e with e1; exact h e1)]
  simp only [if_neg h]
theorem splitP_wrong {r : List UInt8} (h0 : r ≠ []) (h : (pieces r).all seenB = false) : splitP (47 :: r) = ([], 70) := by
  unfold splitP
  rw [if_neg (by simpa using h0)]
  simp [h]
theorem splitP_long {r : List UInt8} (h0 : r ≠ []) (h : (pieces r).all seenB = true) (h2 : 20 < (pieces r).length) : splitP (47 :: r) = ([], 2) := by
  unfold splitP
  rw [if_neg (by simpa using h0)]
  simp [h, h2]
theorem splitP_ok {r : List UInt8} (h0 : r ≠ []) (h : (pieces r).all seenB = true) (h2 : (pieces r).length ≤ 20) : splitP (47 :: r) = (pieces r, 0) := by
  unfold splitP
  rw [if_neg (by simpa using h0)]
  simp [h, Nat.not_lt.2 h2]
theorem splitP_err (p : List UInt8) : (splitP p).2 ≠ 0 → (splitP p).1 = [] := by
  intro h
  by_cases h1 : p = [47]
  · rw [h1]; rfl
  · cases p with
    | nil => rfl
    | cons c r =>
      by_cases hc : c = 47
      · subst hc
        have h0 : r ≠ [] := fun e => h1 (by rw [e])
        cases ha : (pieces r).all seenB with
        | false => rw [splitP_wrong h0 ha]
        | true =>
          by_cases h2 : 20 < (pieces r).length
          · rw [splitP_long h0 ha h2]
          · rw [splitP_ok h0 ha (by omega)] at h; exact absurd rfl h
      · rw [splitP_not hc]
theorem splitP_join {p : List UInt8} (h : (splitP p).2 = 0) : joinR (splitP p).1 = p := by
  by_cases h1 : p = [47]
  · rw [h1]; rfl
  · cases p with
    | nil => exact absurd h (by decide)
    | cons c r =>
      by_cases hc : c = 47
      · subst hc
        have h0 : r ≠ [] := fun e => h1 (by rw [e])
        cases ha : (pieces r).all seenB with
        | false => rw [splitP_wrong h0 ha] at h; exact absurd h (by decide)
        | true =>
          by_cases h2 : 20 < (pieces r).length
          · rw [splitP_long h0 ha h2] at h; exact absurd h (by decide)
          · rw [splitP_ok h0 ha (by omega)]
            show joinR (pieces r) = 47 :: r
            rw [← pieces_ahead r.length r (Nat.le_refl _)]
            cases hp : pieces r with
            | nil => exact absurd hp (pieces_ne r)
            | cons a l => rw [joinR_cons]
      · rw [splitP_not hc] at h; exact absurd h (by decide)
theorem join_splitP {l : List (List UInt8)} (h : ∀ x ∈ l, seenB x = true) : splitP (joinR l) = if 20 < l.length then ([], 2) else (l, 0) := by
  cases l with
  | nil => rfl
  | cons a l =>
    have hne := (seen_parts (h a (by simp))).2.2
    have hp := pieces_of l a (fun x hx => (seen_parts (h x hx)).2.1)
    have h0 : a ++ ahead l ≠ [] := by simp [hne]
    have ha : (pieces (a ++ ahead l)).all seenB = true := by rw [hp]; exact List.all_eq_true.2 h
    rw [joinR_cons, ahead_cons]
    by_cases h2 : 20 < (a :: l).length
    · rw [if_pos h2, splitP_long h0 ha (by rw [hp]; exact h2)]
    · rw [if_neg h2, splitP_ok h0 ha (by rw [hp]; omega), hp]
theorem ahead_len : ∀ (l : List (List UInt8)) (n : Nat), (∀ x ∈ l, x.length ≤ n) → (ahead l).length ≤ (n + 1) * l.length := by
  intro l n
  induction l with
  | nil => intro _; simp [ahead]
  | cons a l ih =>
    intro h
    have h1 := h a (by simp)
    have h2 := ih (fun x hx => h x (by simp [hx]))
    rw [ahead_cons]
    simp only [List.length_append, List.length_cons, Nat.mul_succ]
    omega
theorem pieces_len (l : List UInt8) : (pieces l).length ≤ l.length + 1 := by
  have h : ∀ (L : List (List UInt8)), L.length ≤ (ahead L).length := by
    intro L
    induction L with
    | nil => simp
    | cons a L ih => rw [ahead_cons]; simp only [List.length_append, List.length_cons]; omega
  have := h (pieces l)
  rw [pieces_ahead l.length l (Nat.le_refl _)] at this
  simpa using this

end Go.Proofs.Ytphnimmhjnhajaa.M7

/-
  Layer 8, plain mathematics: groups, which may be, their bytes and back. Nothing here speaks of a program.
-/
namespace Go.Proofs.Ytphnimmhjnhajaa.M8
open V1
set_option linter.unusedVariables false

abbrev Id3 := Int × Int × Int
structure Opn where
  kind : Int
  node : Id3
  parent : Id3
  name : Bytes
  dir : Bool
  dots : List (Int × Int)
  after : Id3
  elem : Id3
  text : Bytes
  elems : List Id3
structure Grp where
  t : Int
  r : Int
  n : Int
  deps : List Int
  ut : Int
  ur : Int
  ops : List Opn

/-! ### Code points of a text -/
def runesN : Nat → Bytes → Option Nat
  | 0, l => if l = [] then some 0 else none
  | f + 1, l => if l = [] then some 0 else match M6.pt l with | none => none | some (c, n) => (runesN f (l.drop n)).map (· + 1)
/-- How many code points a text has; none, if it is no text. -/
def runes (l : Bytes) : Option Nat := runesN l.length l
theorem runesN_of : ∀ (f : Nat) (cs : List Nat) (r : Bytes), M6.pt r = none → (∀ c ∈ cs, M6.okc c) → (M6.flat cs ++ r).length ≤ f → runesN f (M6.flat cs ++ r) = if r = [] then some cs.length else none := by
  intro f
  induction f with
  | zero =>
    intro cs r hr hc hf
    have h := List.length_eq_zero_iff.1 (Nat.le_zero.1 hf)
    obtain ⟨h1, h2⟩ := List.append_eq_nil_iff.1 h
    subst h2
    cases cs with
    | nil => rfl
    | cons c cs =>
      have := M6.enc_pos c
      rw [M6.flat_cons] at h1
      have h3 := congrArg List.length h1
      rw [List.length_append, List.length_nil] at h3
      omega
  | succ f ih =>
    intro cs r hr hc hf
    cases cs with
    | nil =>
      rw [M6.flat_nil, List.nil_append] at hf ⊢
      unfold runesN
      by_cases h : r = []
      · rw [if_pos h, if_pos h]; rfl
      · rw [if_neg h, if_neg h, hr]
    | cons c cs =>
      have hp := M6.enc_pos c
      have he := M6.pt_enc (hc c (by simp)) (M6.flat cs ++ r)
      have hl : M6.flat (c :: cs) ++ r = M6.enc c ++ (M6.flat cs ++ r) := by rw [M6.flat_cons, List.append_assoc]
      rw [hl] at hf ⊢
      have hne : M6.enc c ++ (M6.flat cs ++ r) ≠ [] := fun h => by
        have h3 := congrArg List.length h
        rw [List.length_append, List.length_nil] at h3
        omega
      unfold runesN
      rw [if_neg hne, he]
      simp only
      rw [List.drop_left, ih cs r hr (fun x hx => hc x (by simp [hx])) (by rw [List.length_append] at hf; omega)]
      split <;> rfl
theorem runes_flat {cs : List Nat} (h : ∀ c ∈ cs, M6.okc c) : runes (M6.flat cs) = some cs.length := by
  have := runesN_of (M6.flat cs).length cs [] rfl h (by simp)
  rw [List.append_nil, if_pos rfl] at this
  exact this
theorem runes_bad {l r : Bytes} {cs : List Nat} (h : M6.Reads l cs r) (hr : r ≠ []) : runes l = none := by
  have := runesN_of l.length cs r h.stuck h.ok (by rw [h.split]; exact Nat.le_refl _)
  rw [← h.split, if_neg hr] at this
  exact this
theorem runes_some {l : Bytes} {n : Nat} (h : runes l = some n) : ∃ cs, l = M6.flat cs ∧ (∀ c ∈ cs, M6.okc c) ∧ cs.length = n := by
  obtain ⟨cs, r, hrd⟩ := M6.reads l.length l (Nat.le_refl _)
  by_cases hr : r = []
  · have hl := hrd.split
    rw [hr, List.append_nil] at hl
    rw [hl, runes_flat hrd.ok] at h
    injection h with h
    exact ⟨cs, hl, hrd.ok, h⟩
  · rw [runes_bad hrd hr] at h; cases h
theorem runes_len {l : Bytes} {n : Nat} (h : runes l = some n) : n ≤ l.length ∧ l.length ≤ 4 * n := by
  obtain ⟨cs, rfl, _, rfl⟩ := runes_some h
  exact ⟨M6.flat_len_le, M6.flat_len_ge⟩

/-! ### What may be -/
def rightI (x : Id3) : Bool := M5.rightId x.1 x.2.1 x.2.2
def rightS (s : Int × Int) : Bool := M5.right s.1 s.2
def bef (a b : Int × Int) : Bool := M5.befS a.1 a.2 b.1 b.2
def ofS (g : Grp) (x : Id3) : Bool := x.1 == g.t && x.2.1 == g.r
def noneI (x : Id3) : Bool := x == (0, 0, 0)
def aheadI (g : Grp) (k : Int) (x : Id3) : Bool := rightI x && (bef (x.1, x.2.1) (g.t, g.r) || (ofS g x && decide (x.2.2 < k)))
def parentI (g : Grp) (k : Int) (x : Id3) : Bool := noneI x || aheadI g k x
def bare (o : Opn) (place dir dots run elems : Bool) : Bool :=
  (place || (noneI o.parent && decide (o.name = []))) && (dir || !o.dir) && (dots || decide (o.dots = [])) && (run || (noneI o.after && noneI o.elem && decide (o.text = []))) && (elems || decide (o.elems = []))
def dotsB (g : Grp) : List (Int × Int) → Bool
  | [] => true
  | [x] => rightS x && !bef (g.t, g.r) x
  | x :: y :: l => rightS x && !bef (g.t, g.r) x && bef x y && dotsB g (y :: l)
def cmpI3 (x y : Id3) : Int := M5.cmpD x.1 x.2.1 x.2.2 y.1 y.2.1 y.2.2
def elemsB (g : Grp) (k : Int) : List Id3 → Bool
  | [] => true
  | [x] => aheadI g k x
  | x :: y :: l => aheadI g k x && decide (cmpI3 x y < 0) && elemsB g k (y :: l)
def own (g : Grp) (k : Int) : Id3 := (g.t, g.r, k)
/-- May an operation be? How many ids come to be; none: it may not. -/
def opN (g : Grp) (k : Int) (o : Opn) : Option Nat :=
  if o.kind = 0 then (if (o.node == own g k && parentI g k o.parent && M7.nameB o.name && bare o true true false false false) = true then some 1 else none)
  else if o.kind = 1 then (if (aheadI g k o.node && parentI g k o.parent && M7.nameB o.name && bare o true false false false false) = true then some 0 else none)
  else if o.kind = 2 then (if (aheadI g k o.node && (dotsB g o.dots && decide (o.dots.length ≤ 200)) && bare o false false true false false) = true then some 0 else none)
  else if o.kind = 3 then match runes o.text with
    | none => none
    | some n => if (aheadI g k o.node && parentI g k o.after && o.elem == own g k && (decide (1 ≤ n) && decide (n ≤ 2000)) && bare o false false false true false) = true then some n else none
  else if o.kind = 4 then (if (aheadI g k o.node && (elemsB g k o.elems && (decide (1 ≤ o.elems.length) && decide (o.elems.length ≤ 2000))) && bare o false false false false true) = true then some 0 else none)
  else none
def opsB (g : Grp) : Int → List Opn → Bool
  | _, [] => true
  | k, o :: l => match opN g k o with | none => false | some n => opsB g (k + n) l
/-- H1. -/
def check (g : Grp) : Bool :=
  M5.right g.t g.r && decide (1 ≤ g.n) && decide (g.n ≤ 1099511627776) && M5.vectorL g.deps && M5.atL g.deps g.r == g.n - 1 &&
    (if (g.ut == 0 && g.ur == 0) = true then decide (1 ≤ g.ops.length) && decide (g.ops.length ≤ 200) && opsB g 0 g.ops
     else M5.right g.ut g.ur && bef (g.ut, g.ur) (g.t, g.r) && decide (g.ops = []))

/-! ### Bytes -/
def pPair {α β : Type} (p : P α) (q : P β) : P (α × β) := pBind p fun a => pMap (fun b => (a, b)) q
theorem cPair {α β : Type} {p : P α} {e : α → Bytes} {d : α → Prop} {q : P β} {e' : β → Bytes} {d' : β → Prop} (h : Codec p e d) (h' : Codec q e' d') : Codec (pPair p q) (fun x => e x.1 ++ e' x.2) (fun x => d x.1 ∧ d' x.2) :=
  h.pair (e' := fun _ => e') (dom' := fun _ => d') (fun _ _ => h')
def pStamp : P (Int × Int) := pPair pNat pNat
def stampE (x : Int × Int) : Bytes := natE x.1 ++ natE x.2
def stampD (x : Int × Int) : Prop := natD x.1 ∧ natD x.2
theorem cStamp : Codec pStamp stampE stampD := cPair cNat cNat
def pId : P Id3 := pPair pNat (pPair pNat pNat)
def idE (x : Id3) : Bytes := natE x.1 ++ (natE x.2.1 ++ natE x.2.2)
def idD (x : Id3) : Prop := natD x.1 ∧ (natD x.2.1 ∧ natD x.2.2)
theorem cId : Codec pId idE idD := cPair cNat (cPair cNat cNat)
def pList {α : Type} (p : P α) : P (List α) := pBind pNat fun n => pMany p n.toNat
def listE {α : Type} (e : α → Bytes) (l : List α) : Bytes := natE (l.length : Int) ++ flatE e l
theorem cList {α : Type} {p : P α} {e : α → Bytes} {d : α → Prop} (h : Codec p e d) : Codec (pList p) (listE e) (fun l => (l.length : Int) ≤ 9223372036854775807 ∧ ∀ a ∈ l, d a) := by
  constructor
  · rintro l r ⟨h1, h2⟩
    unfold pList listE
    rw [List.append_assoc, pBind_some (cNat.put _ _ ⟨by omega, h1⟩)]
    exact (h.many _).put l r ⟨by simp, h2⟩
  · intro s l r hs
    obtain ⟨n, t, h1, h2⟩ := pBind_inv hs
    obtain ⟨rfl, hn⟩ := cNat.again _ _ _ h1
    obtain ⟨rfl, hl, hd⟩ := (h.many _).again _ _ _ h2
    unfold natD at hn
    have hln : (l.length : Int) = n := by omega
    exact ⟨by unfold listE; rw [hln, List.append_assoc], by omega, hd⟩
/-- 0 or 1. -/
def pFlag : P Bool := fun s => match pNat s with | none => none | some (d, r) => if d ≤ 1 then some (d == 1, r) else none
def flagE (b : Bool) : Bytes := natE (if b = true then 1 else 0)
theorem cFlag : Codec pFlag flagE (fun _ => True) := by
  constructor
  · intro b r _
    unfold pFlag flagE
    cases b
    · rw [cNat.put _ _ (by unfold natD; simp)]; simp
    · rw [cNat.put _ _ (by unfold natD; simp)]; simp
  · intro s b r hs
    unfold pFlag at hs
    cases hp : pNat s with
    | none => rw [hp] at hs; cases hs
    | some x =>
      obtain ⟨d, t⟩ := x
      rw [hp] at hs
      simp only at hs
      split at hs
      · rename_i hd
        injection hs with hs; injection hs with h1 h2
        subst h2
        obtain ⟨h3, h4⟩ := cNat.again _ _ _ hp
        unfold natD at h4
        refine ⟨?_, trivial⟩
        rw [h3, ← h1]
        unfold flagE
        rcases (show d = 0 ∨ d = 1 by omega) with rfl | rfl <;> rfl
      · cases hs

def none3 : Id3 := (0, 0, 0)
def qMake (x : Int × Id3) : P Opn := pMap (fun y => { kind := 0, node := x.2, parent := y.1, name := y.2.1, dir := y.2.2, dots := [], after := none3, elem := none3, text := [], elems := [] }) (pPair pId (pPair pText pFlag))
def qMove (x : Int × Id3) : P Opn := pMap (fun y => { kind := 1, node := x.2, parent := y.1, name := y.2, dir := false, dots := [], after := none3, elem := none3, text := [], elems := [] }) (pPair pId pText)
def qDrop (x : Int × Id3) : P Opn := pMap (fun y => { kind := 2, node := x.2, parent := none3, name := [], dir := false, dots := y, after := none3, elem := none3, text := [], elems := [] }) (pList pStamp)
def qInsert (x : Int × Id3) : P Opn := pMap (fun y => { kind := 3, node := x.2, parent := none3, name := [], dir := false, dots := [], after := y.1, elem := y.2.1, text := y.2.2, elems := [] }) (pPair pId (pPair pId pText))
def qErase (x : Int × Id3) : P Opn := pMap (fun y => { kind := 4, node := x.2, parent := none3, name := [], dir := false, dots := [], after := none3, elem := none3, text := [], elems := y }) (pList pId)
def qOp (x : Int × Id3) : P Opn := if x.1 = 0 then qMake x else if x.1 = 1 then qMove x else if x.1 = 2 then qDrop x else if x.1 = 3 then qInsert x else if x.1 = 4 then qErase x else pFail
def pOp : P Opn := pBind (pPair pNat pId) qOp
def tailE (o : Opn) : Bytes :=
  if o.kind = 0 then idE o.parent ++ (bytesB o.name ++ flagE o.dir)
  else if o.kind = 1 then idE o.parent ++ bytesB o.name
  else if o.kind = 2 then listE stampE o.dots
  else if o.kind = 3 then idE o.after ++ (idE o.elem ++ bytesB o.text)
  else listE idE o.elems
def opE (o : Opn) : Bytes := natE o.kind ++ idE o.node ++ tailE o
def tailD (o : Opn) : Prop :=
  (o.kind = 0 ∧ idD o.parent ∧ (o.name.length ≤ 9223372036854775807) ∧ o.dots = [] ∧ o.after = none3 ∧ o.elem = none3 ∧ o.text = [] ∧ o.elems = []) ∨
  (o.kind = 1 ∧ idD o.parent ∧ (o.name.length ≤ 9223372036854775807) ∧ o.dir = false ∧ o.dots = [] ∧ o.after = none3 ∧ o.elem = none3 ∧ o.text = [] ∧ o.elems = []) ∨
  (o.kind = 2 ∧ ((o.dots.length : Int) ≤ 9223372036854775807 ∧ ∀ a ∈ o.dots, stampD a) ∧ o.parent = none3 ∧ o.name = [] ∧ o.dir = false ∧ o.after = none3 ∧ o.elem = none3 ∧ o.text = [] ∧ o.elems = []) ∨
  (o.kind = 3 ∧ idD o.after ∧ idD o.elem ∧ (o.text.length ≤ 9223372036854775807) ∧ o.parent = none3 ∧ o.name = [] ∧ o.dir = false ∧ o.dots = [] ∧ o.elems = []) ∨
  (o.kind = 4 ∧ ((o.elems.length : Int) ≤ 9223372036854775807 ∧ ∀ a ∈ o.elems, idD a) ∧ o.parent = none3 ∧ o.name = [] ∧ o.dir = false ∧ o.dots = [] ∧ o.after = none3 ∧ o.elem = none3 ∧ o.text = [])
def opD (o : Opn) : Prop := idD o.node ∧ tailD o
theorem cOp : Codec pOp opE opD := by
  constructor
  · rintro ⟨k, nd, par, nm, dir, dots, aft, el, tx, els⟩ r ⟨hn, ht⟩
    have hk : natD k := by
      rcases ht with h | h | h | h | h <;> (have h1 : k = _ := h.1; subst h1; unfold natD; simp)
    unfold pOp opE
    simp only [List.append_assoc]
    have h1 := (cPair cNat cId).put (k, nd) (tailE ⟨k, nd, par, nm, dir, dots, aft, el, tx, els⟩ ++ r) ⟨hk, hn⟩
    simp only [List.append_assoc] at h1
    rw [pBind_some h1]
    rcases ht with h | h | h | h | h
    · obtain ⟨rfl, a1, a2, rfl, rfl, rfl, rfl, rfl⟩ := h
      have h2 := (cPair cId (cPair cText cFlag)).put (par, nm, dir) r ⟨a1, a2, trivial⟩
      exact pMap_some (p := pPair pId (pPair pText pFlag)) h2
    · obtain ⟨rfl, a1, a2, rfl, rfl, rfl, rfl, rfl, rfl⟩ := h
      have h2 := (cPair cId cText).put (par, nm) r ⟨a1, a2⟩
      exact pMap_some (p := pPair pId pText) h2
    · obtain ⟨rfl, a1, rfl, rfl, rfl, rfl, rfl, rfl, rfl⟩ := h
      exact pMap_some (p := pList pStamp) ((cList cStamp).put dots r a1)
    · obtain ⟨rfl, a1, a2, a3, rfl, rfl, rfl, rfl, rfl⟩ := h
      have h2 := (cPair cId (cPair cId cText)).put (aft, el, tx) r ⟨a1, a2, a3⟩
      exact pMap_some (p := pPair pId (pPair pId pText)) h2
    · obtain ⟨rfl, a1, rfl, rfl, rfl, rfl, rfl, rfl, rfl⟩ := h
      exact pMap_some (p := pList pId) ((cList cId).put els r a1)
  · intro s o r hs
    obtain ⟨⟨k, nd⟩, t, h1, h2⟩ := pBind_inv hs
    obtain ⟨rfl, hk, hn⟩ := (cPair cNat cId).again _ _ _ h1
    simp only at hk hn
    unfold qOp at h2
    simp only at h2
    split at h2
    · rename_i hk0
      obtain ⟨⟨a, b, c⟩, h3, rfl⟩ := pMap_inv h2
      obtain ⟨rfl, d1, d2, d3⟩ := (cPair cId (cPair cText cFlag)).again _ _ _ h3
      refine ⟨?_, hn, .inl ⟨rfl, d1, d2, rfl, rfl, rfl, rfl, rfl⟩⟩
      subst hk0
      unfold opE tailE
      simp
    · rename_i k0
      split at h2
      · rename_i hk1
        obtain ⟨⟨a, b⟩, h3, rfl⟩ := pMap_inv h2
        obtain ⟨rfl, d1, d2⟩ := (cPair cId cText).again _ _ _ h3
        refine ⟨?_, hn, .inr (.inl ⟨rfl, d1, d2, rfl, rfl, rfl, rfl, rfl, rfl⟩)⟩
        subst hk1
        unfold opE tailE
        simp
      · rename_i k1
        split at h2
        · rename_i hk2
          obtain ⟨a, h3, rfl⟩ := pMap_inv h2
          obtain ⟨rfl, d1⟩ := (cList cStamp).again _ _ _ h3
          refine ⟨?_, hn, .inr (.inr (.inl ⟨rfl, d1, rfl, rfl, rfl, rfl, rfl, rfl, rfl⟩))⟩
          subst hk2
          unfold opE tailE
          simp
        · rename_i k2
          split at h2
          · rename_i hk3
            obtain ⟨⟨a, b, c⟩, h3, rfl⟩ := pMap_inv h2
            obtain ⟨rfl, d1, d2, d3⟩ := (cPair cId (cPair cId cText)).again _ _ _ h3
            refine ⟨?_, hn, .inr (.inr (.inr (.inl ⟨rfl, d1, d2, d3, rfl, rfl, rfl, rfl, rfl⟩)))⟩
            subst hk3
            unfold opE tailE
            simp
          · rename_i k3
            split at h2
            · rename_i hk4
              obtain ⟨a, h3, rfl⟩ := pMap_inv h2
              obtain ⟨rfl, d1⟩ := (cList cId).again _ _ _ h3
              refine ⟨?_, hn, .inr (.inr (.inr (.inr ⟨rfl, d1, rfl, rfl, rfl, rfl, rfl, rfl, rfl⟩)))⟩
              subst hk4
              unfold opE tailE
              simp
            · cases h2

abbrev Tup := (Int × Int) × Int × List Int × (Int × Int) × List Opn
def ofTup (x : Tup) : Grp := ⟨x.1.1, x.1.2, x.2.1, x.2.2.1, x.2.2.2.1.1, x.2.2.2.1.2, x.2.2.2.2⟩
def toTup (g : Grp) : Tup := ((g.t, g.r), g.n, g.deps, (g.ut, g.ur), g.ops)
def pTup : P Tup := pPair pStamp (pPair pNat (pPair pNats (pPair pStamp (pList pOp))))
def pGrp : P Grp := pMap ofTup pTup
/-- H2: the bytes of a group that may be. -/
def spell (g : Grp) : Bytes := stampE (g.t, g.r) ++ (natE g.n ++ (natsE g.deps ++ (stampE (g.ut, g.ur) ++ listE opE g.ops)))
def grpD (g : Grp) : Prop := stampD (g.t, g.r) ∧ natD g.n ∧ (g.deps.length ≤ 9223372036854775807 ∧ ∀ n ∈ g.deps, natD n) ∧ stampD (g.ut, g.ur) ∧ ((g.ops.length : Int) ≤ 9223372036854775807 ∧ ∀ o ∈ g.ops, opD o)
theorem cTup : Codec pTup (fun x => stampE x.1 ++ (natE x.2.1 ++ (natsE x.2.2.1 ++ (stampE x.2.2.2.1 ++ listE opE x.2.2.2.2)))) (fun x => stampD x.1 ∧ natD x.2.1 ∧ (x.2.2.1.length ≤ 9223372036854775807 ∧ ∀ n ∈ x.2.2.1, natD n) ∧ stampD x.2.2.2.1 ∧ ((x.2.2.2.2.length : Int) ≤ 9223372036854775807 ∧ ∀ o ∈ x.2.2.2.2, opD o)) :=
  cPair cStamp (cPair cNat (cPair cNats (cPair cStamp (cList cOp))))
theorem cGrp : Codec pGrp spell grpD := cTup.iso ofTup toTup (fun g h => ⟨h, rfl⟩) (fun x h => ⟨h, rfl⟩)

theorem right_natS {t r : Int} (h : M5.right t r = true) : stampD (t, r) := by
  have := M5.right_iff.1 h
  constructor <;> (show natD _; unfold natD; omega)
theorem right_natI {x : Id3} (h : rightI x = true) : idD x := by
  have := M5.rightId_iff.1 h
  refine ⟨?_, ?_, ?_⟩ <;> (unfold natD; omega)
theorem ahead_nat {g : Grp} {k : Int} {x : Id3} (h : aheadI g k x = true) : idD x := by
  unfold aheadI at h
  rw [Bool.and_eq_true] at h
  exact right_natI h.1
theorem none_eq {x : Id3} (h : noneI x = true) : x = none3 := by unfold noneI at h; exact eq_of_beq h
theorem none_nat : idD none3 := by refine ⟨?_, ?_, ?_⟩ <;> (unfold natD none3; simp)
theorem parent_nat {g : Grp} {k : Int} {x : Id3} (h : parentI g k x = true) : idD x := by
  unfold parentI at h
  rcases Bool.or_eq_true _ _ ▸ h with h | h
  · rw [none_eq h]; exact none_nat
  · exact ahead_nat h
theorem dots_nat {g : Grp} : ∀ (l : List (Int × Int)), dotsB g l = true → ∀ x ∈ l, stampD x := by
  intro l
  induction l with
  | nil => intro _ x hx; cases hx
  | cons a l ih =>
    intro h x hx
    cases l with
    | nil =>
      simp only [dotsB, Bool.and_eq_true] at h
      rw [List.mem_singleton.1 hx]
      exact right_natS h.1
    | cons b l =>
      simp only [dotsB, Bool.and_eq_true] at h
      rcases List.mem_cons.1 hx with rfl | hx
      · exact right_natS h.1.1.1
      · exact ih h.2 x hx
theorem elems_nat {g : Grp} {k : Int} : ∀ (l : List Id3), elemsB g k l = true → ∀ x ∈ l, idD x := by
  intro l
  induction l with
  | nil => intro _ x hx; cases hx
  | cons a l ih =>
    intro h x hx
    cases l with
    | nil =>
      simp only [elemsB] at h
      rw [List.mem_singleton.1 hx]
      exact ahead_nat h
    | cons b l =>
      simp only [elemsB, Bool.and_eq_true] at h
      rcases List.mem_cons.1 hx with rfl | hx
      · exact ahead_nat h.1.1
      · exact ih h.2 x hx
theorem bare_parts {o : Opn} {a b c d e : Bool} (h : bare o a b c d e = true) :
    (a = false → o.parent = none3 ∧ o.name = []) ∧ (b = false → o.dir = false) ∧ (c = false → o.dots = []) ∧ (d = false → o.after = none3 ∧ o.elem = none3 ∧ o.text = []) ∧ (e = false → o.elems = []) := by
  unfold bare at h
  simp only [Bool.and_eq_true, Bool.or_eq_true] at h
  obtain ⟨⟨⟨⟨h1, h2⟩, h3⟩, h4⟩, h5⟩ := h
  refine ⟨fun ha => ?_, fun hb => ?_, fun hc => ?_, fun hd => ?_, fun he => ?_⟩
  · rcases h1 with h1 | ⟨h1, h6⟩
    · rw [ha] at h1; cases h1
    · exact ⟨none_eq h1, of_decide_eq_true h6⟩
  · rcases h2 with h2 | h2
    · rw [hb] at h2; cases h2
    · simpa using h2
  · rcases h3 with h3 | h3
    · rw [hc] at h3; cases h3
    · exact of_decide_eq_true h3
  · rcases h4 with h4 | ⟨⟨h4, h6⟩, h7⟩
    · rw [hd] at h4; cases h4
    · exact ⟨none_eq h4, none_eq h6, of_decide_eq_true h7⟩
  · rcases h5 with h5 | h5
    · rw [he] at h5; cases h5
    · exact of_decide_eq_true h5
theorem own_nat {g : Grp} {k : Int} (hg : M5.right g.t g.r = true) (h0 : 0 ≤ k) (hk : k ≤ 1000000) : idD (own g k) := by
  have := M5.right_iff.1 hg
  refine ⟨?_, ?_, ?_⟩ <;> (unfold natD own; simp only; omega)
/-- How many ids come to be in an operation. -/
theorem opN_le {g : Grp} {k : Int} {o : Opn} {n : Nat} (h : opN g k o = some n) : n ≤ 2000 := by
  unfold opN at h
  split at h
  · split at h
    · injection h with h; omega
    · cases h
  · split at h
    · split at h
      · injection h with h; omega
      · cases h
    · split at h
      · split at h
        · injection h with h; omega
        · cases h
      · split at h
        · split at h
          · cases h
          · rename_i m hm
            split at h
            · rename_i hc
              injection h with h
              simp only [Bool.and_eq_true, decide_eq_true_eq] at hc
              omega
            · cases h
        · split at h
          · split at h
            · injection h with h; omega
            · cases h
          · cases h
theorem opN_dom {g : Grp} {k : Int} {o : Opn} {n : Nat} (hg : M5.right g.t g.r = true) (h0 : 0 ≤ k) (hk : k ≤ 1000000) (h : opN g k o = some n) : opD o := by
  unfold opN at h
  split at h
  · rename_i h0
    split at h
    · rename_i hc
      simp only [Bool.and_eq_true] at hc
      obtain ⟨⟨⟨c1, c2⟩, c3⟩, c4⟩ := hc
      obtain ⟨b1, b2, b3, b4, b5⟩ := bare_parts c4
      obtain ⟨b6, b7, b8⟩ := b4 rfl
      have c5 := M7.name_len c3
      exact ⟨by rw [eq_of_beq c1]; exact own_nat hg (by assumption) hk, .inl ⟨h0, parent_nat c2, by omega, b3 rfl, b6, b7, b8, b5 rfl⟩⟩
    · cases h
  · split at h
    · rename_i h1
      split at h
      · rename_i hc
        simp only [Bool.and_eq_true] at hc
        obtain ⟨⟨⟨c1, c2⟩, c3⟩, c4⟩ := hc
        obtain ⟨b1, b2, b3, b4, b5⟩ := bare_parts c4
        obtain ⟨b6, b7, b8⟩ := b4 rfl
        have c5 := M7.name_len c3
        exact ⟨ahead_nat c1, .inr (.inl ⟨h1, parent_nat c2, by omega, b2 rfl, b3 rfl, b6, b7, b8, b5 rfl⟩)⟩
      · cases h
    · split at h
      · rename_i h2
        split at h
        · rename_i hc
          simp only [Bool.and_eq_true, decide_eq_true_eq] at hc
          obtain ⟨⟨c1, c2, c3⟩, c4⟩ := hc
          obtain ⟨b1, b2, b3, b4, b5⟩ := bare_parts c4
          obtain ⟨b6, b7, b8⟩ := b4 rfl
          obtain ⟨b9, b10⟩ := b1 rfl
          exact ⟨ahead_nat c1, .inr (.inr (.inl ⟨h2, ⟨by omega, dots_nat _ c2⟩, b9, b10, b2 rfl, b6, b7, b8, b5 rfl⟩))⟩
        · cases h
      · split at h
        · rename_i h3
          split at h
          · cases h
          · rename_i m hm
            split at h
            · rename_i hc
              simp only [Bool.and_eq_true, decide_eq_true_eq] at hc
              obtain ⟨⟨⟨⟨c1, c2⟩, c3⟩, c4, c5⟩, c6⟩ := hc
              obtain ⟨b1, b2, b3, b4, b5⟩ := bare_parts c6
              obtain ⟨b9, b10⟩ := b1 rfl
              have c7 := (runes_len hm).2
              exact ⟨ahead_nat c1, .inr (.inr (.inr (.inl ⟨h3, parent_nat c2, by rw [eq_of_beq c3]; exact own_nat hg (by assumption) hk, by omega, b9, b10, b2 rfl, b3 rfl, b5 rfl⟩)))⟩
            · cases h
        · split at h
          · rename_i h4
            split at h
            · rename_i hc
              simp only [Bool.and_eq_true, decide_eq_true_eq] at hc
              obtain ⟨⟨c1, c2, c3, c4⟩, c5⟩ := hc
              obtain ⟨b1, b2, b3, b4, b5⟩ := bare_parts c5
              obtain ⟨b6, b7, b8⟩ := b4 rfl
              obtain ⟨b9, b10⟩ := b1 rfl
              exact ⟨ahead_nat c1, .inr (.inr (.inr (.inr ⟨h4, ⟨by omega, elems_nat _ c2⟩, b9, b10, b2 rfl, b3 rfl, b6, b7, b8⟩)))⟩
            · cases h
          · cases h
theorem ops_dom {g : Grp} (hg : M5.right g.t g.r = true) : ∀ (l : List Opn) (k : Int), 0 ≤ k → k + 2000 * l.length ≤ 1000000 → opsB g k l = true → ∀ o ∈ l, opD o := by
  intro l
  induction l with
  | nil => intro k _ _ _ o ho; cases ho
  | cons a l ih =>
    intro k h0 hk h o ho
    simp only [List.length_cons] at hk
    unfold opsB at h
    cases hn : opN g k a with
    | none => rw [hn] at h; cases h
    | some n =>
      rw [hn] at h
      simp only at h
      have hle := opN_le hn
      rcases List.mem_cons.1 ho with rfl | ho
      · exact opN_dom hg h0 (by omega) hn
      · exact ih (k + n) (by omega) (by omega) h o ho
theorem vector_nat {v : List Int} (h : M5.vectorL v = true) (hb : ∀ n ∈ v, n ≤ 9223372036854775807) : v.length ≤ 9223372036854775807 ∧ ∀ n ∈ v, natD n := by
  unfold M5.vectorL at h
  simp only [Bool.and_eq_true, decide_eq_true_eq, List.all_eq_true] at h
  exact ⟨by omega, fun n hn => ⟨h.2 n hn, hb n hn⟩⟩
theorem check_dom {g : Grp} (h : check g = true) (hb : ∀ n ∈ g.deps, n ≤ 9223372036854775807) : grpD g := by
  unfold check at h
  simp only [Bool.and_eq_true, decide_eq_true_eq] at h
  obtain ⟨⟨⟨⟨⟨h1, h2⟩, h3⟩, h4⟩, h5⟩, h6⟩ := h
  refine ⟨right_natS h1, by unfold natD; omega, vector_nat h4 hb, ?_⟩
  by_cases hu : (g.ut == 0) = true ∧ (g.ur == 0) = true
  · rw [if_pos hu] at h6
    simp only [Bool.and_eq_true, decide_eq_true_eq, beq_iff_eq] at h6 hu
    obtain ⟨⟨h7, h8⟩, h9⟩ := h6
    exact ⟨by rw [hu.1, hu.2]; constructor <;> (unfold natD; simp), by omega, ops_dom h1 g.ops 0 (by omega) (by omega) h9⟩
  · rw [if_neg hu] at h6
    simp only [Bool.and_eq_true, decide_eq_true_eq] at h6
    exact ⟨right_natS h6.1.1, by rw [h6.2]; simp, by rw [h6.2]; simp⟩

/-- H3. -/
def decode (s : Bytes) : Option Grp := match pGrp s with | none => none | some (g, r) => if r = [] ∧ check g = true then some g else none
theorem decode_spell {g : Grp} (h : check g = true) (hb : ∀ n ∈ g.deps, n ≤ 9223372036854775807) : decode (spell g) = some g := by
  have h1 := cGrp.put g [] (check_dom h hb)
  rw [List.append_nil] at h1
  unfold decode
  rw [h1]
  simp [h]
theorem decode_inv {s : Bytes} {g : Grp} (h : decode s = some g) : s = spell g ∧ check g = true ∧ grpD g := by
  unfold decode at h
  cases hp : pGrp s with
  | none => rw [hp] at h; cases h
  | some x =>
    obtain ⟨g', r⟩ := x
    rw [hp] at h
    simp only at h
    split at h
    · rename_i hc
      injection h with h
      subst h
      obtain ⟨h1, h2⟩ := cGrp.again _ _ _ hp
      rw [hc.1, List.append_nil] at h1
      exact ⟨h1, hc.2, h2⟩
    · cases h
theorem decode_cut {g : Grp} (h : check g = true) (hb : ∀ n ∈ g.deps, n ≤ 9223372036854775807) {j : Nat} (hj : j < (spell g).length) : decode ((spell g).take j) = none := by
  cases hd : decode ((spell g).take j) with
  | none => rfl
  | some x =>
    obtain ⟨h1, _, h2⟩ := decode_inv hd
    have h3 := cGrp.put x [] h2
    rw [List.append_nil, ← h1] at h3
    have h4 := cGrp.put g [] (check_dom h hb)
    rw [List.append_nil, ← List.take_append_drop j (spell g)] at h4
    have h5 := cGrp.cut h4 h3
    have := congrArg List.length h5
    rw [List.length_drop, List.length_nil] at this
    omega
theorem spell_inj {g h : Grp} (hg : grpD g) (hh : grpD h) : spell g = spell h ↔ g = h := by
  constructor
  · intro e
    have h1 := cGrp.put g [] hg
    have h2 := cGrp.put h [] hh
    rw [e] at h1
    rw [h1] at h2
    injection h2 with h2; injection h2 with h3 _
  · rintro rfl; rfl

end Go.Proofs.Ytphnimmhjnhajaa.M8

/-
  append to a row of the call's own, as one step of a region that draws its order.
-/
namespace Go.Proofs.Ytphnimmhjnhajaa
open Go.RowKit

theorem step_append_own {P : Program} {ops : Array Oper} {o : Oper} {a : Act} {w : World} {K : Act → World → Prop} {Q : Exit → Act → World → Prop} {E : Prop}
    (hg : o.guard = none) (s x : Operand) (t : TypeId) (hop : o.op = Op.call { callee := Callee.builtin Builtin.append, args := #[s, x], argTypes := #[t, t] })
    (base : Nat) (e : TypeId) (i : TypeInfo) (z : Value) (size bytes : Nat) (h1 : P.underlying t = some (.slice e)) (h2 : P.info? e = some i) (h3 : i.zero = some z) (h4 : i.size = size) (h5 : i.bytes = bytes) (h6 : z.cells.size = size) (h7 : 0 < size)
    (v : Value) (n : Nat) (xs : List Value) (hs : a.eval s = v) (hown : w.ownsRow base e size v n xs)
    (ad : Addr) (m c : Nat) (news : List Value) (hx : a.eval x = .slice (some ad) m c) (hn : news.length = m * size) (hc : ∀ j u, news[j]? = some u → w.cell? (ad.add j) = some u) (h1c : ∀ u ∈ news, u.oneCell' = true)
    (b1 : n + m ≤ maxLen) (b2 : (n + m) * bytes ≤ 140737488355328) (b3 : base ≤ w.heap.size)
    (hK : ∀ v' w', w'.ownsRow base e size v' (n + m) (xs ++ news) → w.grownBy w' v.ownBlock → K (a.put o.dst v') w') :
    if Region.wanted o (yielded ops a.tmps) = true then Oper.wp P o a w K Q else E := by
  have hw : Region.wanted o (yielded ops a.tmps) = true := by simp [Region.wanted, hg]
  rw [if_pos hw]
  obtain ⟨v', w', hrun, r1, r2, _⟩ := run_append_own (P := P) w base t o.type e i z size bytes h1 h2 h3 h4 h5 h6 h7 v n xs hown ad m c news hn hc h1c b1 b2 b3
  unfold Oper.wp
  simp [execOp, hop, resolve, invoke, builtin, hs, hx, hrun, Result.andThen]
  exact hK v' w' r1 r2

end Go.Proofs.Ytphnimmhjnhajaa

/-
  Layer 8, plain mathematics: a group that may be may be with a later stamp, too. Nothing here speaks of a program.
-/
namespace Go.Proofs.Ytphnimmhjnhajaa.M8
set_option linter.unusedVariables false

def shI (g : Grp) (T : Int) (x : Id3) : Id3 := if ofS g x = true then (T, g.r, x.2.2) else x
def shS (g : Grp) (T : Int) (s : Int × Int) : Int × Int := if (s.1 == g.t && s.2 == g.r) = true then (T, g.r) else s
def shOp (g : Grp) (T : Int) (o : Opn) : Opn := { o with node := shI g T o.node, parent := shI g T o.parent, dots := o.dots.map (shS g T), after := shI g T o.after, elem := shI g T o.elem, elems := o.elems.map (shI g T) }
def shG (g : Grp) (T : Int) : Grp := { g with t := T, ops := g.ops.map (shOp g T) }

theorem bef_iff {a b : Int × Int} : bef a b = true ↔ a.1 < b.1 ∨ (a.1 = b.1 ∧ a.2 < b.2) := by simp [bef, M5.befS]
theorem bef_no {a b : Int × Int} : bef a b = false ↔ ¬ (a.1 < b.1 ∨ (a.1 = b.1 ∧ a.2 < b.2)) := by rw [← bef_iff]; simp
theorem ofS_iff {g : Grp} {x : Id3} : ofS g x = true ↔ x.1 = g.t ∧ x.2.1 = g.r := by simp [ofS]
theorem sh_own {g : Grp} {T : Int} {x : Id3} (h : ofS g x = true) : shI g T x = (T, g.r, x.2.2) := by unfold shI; rw [if_pos h]
theorem sh_not {g : Grp} {T : Int} {x : Id3} (h : ¬ ofS g x = true) : shI g T x = x := by unfold shI; rw [if_neg h]

section
variable {g : Grp} {T : Int}
theorem right_sh (hg : M5.right g.t g.r = true) (h1 : g.t < T) (h2 : T ≤ 1099511627776) : M5.right T g.r = true := by
  rw [M5.right_iff] at *; omega
theorem rightI_sh (hg : M5.right g.t g.r = true) (h1 : g.t < T) (h2 : T ≤ 1099511627776) {x : Id3} (h : rightI x = true) : rightI (shI g T x) = true := by
  by_cases ho : ofS g x = true
  · rw [sh_own ho]
    have h3 := M5.right_iff.1 hg
    unfold rightI at h ⊢
    rw [M5.rightId_iff] at h ⊢
    simp only
    omega
  · rw [sh_not ho]; exact h
theorem ahead_sh (hg : M5.right g.t g.r = true) (h1 : g.t < T) (h2 : T ≤ 1099511627776) {k : Int} {x : Id3} (h : aheadI g k x = true) : aheadI (shG g T) k (shI g T x) = true := by
  unfold aheadI at h ⊢
  simp only [Bool.and_eq_true, Bool.or_eq_true, decide_eq_true_eq] at h ⊢
  obtain ⟨h3, h4⟩ := h
  refine ⟨rightI_sh hg h1 h2 h3, ?_⟩
  by_cases ho : ofS g x = true
  · rw [sh_own ho]
    have h5 : x.2.2 < k := by
      rcases h4 with h4 | h4
      · rw [bef_iff] at h4
        have := ofS_iff.1 ho
        simp only at h4
        omega
      · exact h4.2
    exact .inr ⟨by rw [ofS_iff]; exact ⟨rfl, rfl⟩, h5⟩
  · rw [sh_not ho]
    rcases h4 with h4 | h4
    · left
      rw [bef_iff] at h4 ⊢
      simp only [shG] at h4 ⊢
      omega
    · exact absurd h4.1 ho
theorem none_sh (hg : M5.right g.t g.r = true) {x : Id3} (h : noneI x = true) : noneI (shI g T x) = true := by
  have hx := none_eq h
  have h3 := M5.right_iff.1 hg
  have ho : ¬ ofS g x = true := by
    rw [ofS_iff, hx]
    simp only [none3]
    omega
  rw [sh_not ho]; exact h
theorem parent_sh (hg : M5.right g.t g.r = true) (h1 : g.t < T) (h2 : T ≤ 1099511627776) {k : Int} {x : Id3} (h : parentI g k x = true) : parentI (shG g T) k (shI g T x) = true := by
  unfold parentI at h ⊢
  rw [Bool.or_eq_true] at h ⊢
  rcases h with h | h
  · exact .inl (none_sh hg h)
  · exact .inr (ahead_sh hg h1 h2 h)
theorem own_sh {k : Int} {x : Id3} (h : (x == own g k) = true) : (shI g T x == own (shG g T) k) = true := by
  have hx := eq_of_beq h
  have ho : ofS g x = true := by rw [ofS_iff, hx]; exact ⟨rfl, rfl⟩
  rw [sh_own ho, hx]
  simp [own, shG]
theorem bare_sh (hg : M5.right g.t g.r = true) {o : Opn} {a b c d e : Bool} (h : bare o a b c d e = true) : bare (shOp g T o) a b c d e = true := by
  unfold bare at h ⊢
  simp only [Bool.and_eq_true, Bool.or_eq_true, decide_eq_true_eq, shOp] at h ⊢
  obtain ⟨⟨⟨⟨p1, p2⟩, p3⟩, p4⟩, p5⟩ := h
  refine ⟨⟨⟨⟨?_, p2⟩, ?_⟩, ?_⟩, ?_⟩
  · exact p1.imp id (fun q => ⟨none_sh hg q.1, decide_eq_true q.2⟩)
  · exact p3.imp id (fun q => decide_eq_true (by rw [q]; rfl))
  · exact p4.imp id (fun q => ⟨⟨none_sh hg q.1.1, none_sh hg q.1.2⟩, decide_eq_true q.2⟩)
  · exact p5.imp id (fun q => decide_eq_true (by rw [q]; rfl))
theorem rightS_sh (hg : M5.right g.t g.r = true) (h1 : g.t < T) (h2 : T ≤ 1099511627776) {s : Int × Int} (h : rightS s = true) : rightS (shS g T s) = true := by
  unfold shS
  split
  · exact right_sh hg h1 h2
  · exact h
theorem behind_sh (h1 : g.t < T) {s : Int × Int} (h : bef (g.t, g.r) s = false) : bef (T, g.r) (shS g T s) = false := by
  rw [bef_no] at h ⊢
  unfold shS
  split
  · simp
  · simp only at h ⊢
    omega
theorem bef_sh (h1 : g.t < T) {a b : Int × Int} (ha : bef (g.t, g.r) b = false) (h : bef a b = true) : bef (shS g T a) (shS g T b) = true := by
  rw [bef_iff] at h
  rw [bef_no] at ha
  rw [bef_iff]
  unfold shS
  split
  · rename_i e1
    simp only [Bool.and_eq_true, beq_iff_eq] at e1
    simp only at ha
    omega
  · rename_i e1
    simp only [Bool.and_eq_true, beq_iff_eq] at e1
    split
    · rename_i e2
      simp only [Bool.and_eq_true, beq_iff_eq] at e2
      simp only
      omega
    · exact h
theorem dots_sh (hg : M5.right g.t g.r = true) (h1 : g.t < T) (h2 : T ≤ 1099511627776) : ∀ (l : List (Int × Int)), dotsB g l = true → dotsB (shG g T) (l.map (shS g T)) = true := by
  intro l
  induction l with
  | nil => intro _; rfl
  | cons a l ih =>
    intro h
    cases l with
    | nil =>
      simp only [dotsB, Bool.and_eq_true, Bool.not_eq_true'] at h
      simp only [List.map_cons, List.map_nil, dotsB, Bool.and_eq_true, Bool.not_eq_true']
      exact ⟨rightS_sh hg h1 h2 h.1, behind_sh h1 h.2⟩
    | cons b l =>
      have hb : bef (g.t, g.r) b = false := by
        have h3 := h
        simp only [dotsB, Bool.and_eq_true, Bool.not_eq_true'] at h3
        cases l with
        | nil =>
          have h4 := h3.2
          simp only [dotsB, Bool.and_eq_true, Bool.not_eq_true'] at h4
          exact h4.2
        | cons c l =>
          have h4 := h3.2
          simp only [dotsB, Bool.and_eq_true, Bool.not_eq_true'] at h4
          exact h4.1.1.2
      simp only [dotsB, Bool.and_eq_true, Bool.not_eq_true'] at h
      simp only [List.map_cons, dotsB, Bool.and_eq_true, Bool.not_eq_true']
      have h5 := ih h.2
      rw [List.map_cons] at h5
      exact ⟨⟨⟨rightS_sh hg h1 h2 h.1.1.1, behind_sh h1 h.1.1.2⟩, bef_sh h1 hb h.1.2⟩, h5⟩
theorem cmp_lt {x y : Id3} : cmpI3 x y < 0 ↔ x.1 < y.1 ∨ (x.1 = y.1 ∧ (x.2.1 < y.2.1 ∨ (x.2.1 = y.2.1 ∧ x.2.2 < y.2.2))) := by
  have h := M5.cmpD_le y.1 y.2.1 y.2.2 x.1 x.2.1 x.2.2
  have h2 := M5.cmpD_turn x.1 x.2.1 x.2.2 y.1 y.2.1 y.2.2
  unfold cmpI3
  constructor
  · intro h3
    have h4 : ¬ M5.cmpD y.1 y.2.1 y.2.2 x.1 x.2.1 x.2.2 ≤ 0 := by omega
    rw [h] at h4
    omega
  · intro h3
    have h4 : ¬ M5.cmpD y.1 y.2.1 y.2.2 x.1 x.2.1 x.2.2 ≤ 0 := by rw [h]; omega
    omega
theorem ahead_place {k : Int} {x : Id3} (h : aheadI g k x = true) : x.1 < g.t ∨ (x.1 = g.t ∧ x.2.1 ≤ g.r) := by
  unfold aheadI at h
  simp only [Bool.and_eq_true, Bool.or_eq_true] at h
  rcases h.2 with h | h
  · rw [bef_iff] at h; simp only at h; omega
  · have := ofS_iff.1 h.1; omega
theorem cmp_sh (h1 : g.t < T) {k : Int} {x y : Id3} (hx : aheadI g k x = true) (hy : aheadI g k y = true) (h : cmpI3 x y < 0) : cmpI3 (shI g T x) (shI g T y) < 0 := by
  have px := ahead_place hx
  have py := ahead_place hy
  rw [cmp_lt] at h ⊢
  by_cases ox : ofS g x = true
  · have ox' := ofS_iff.1 ox
    by_cases oy : ofS g y = true
    · have oy' := ofS_iff.1 oy
      rw [sh_own ox, sh_own oy]
      exact .inr ⟨rfl, .inr ⟨rfl, by show x.2.2 < y.2.2; omega⟩⟩
    · rw [ofS_iff] at oy
      exact absurd h (by omega)
  · rw [sh_not ox]
    by_cases oy : ofS g y = true
    · rw [sh_own oy]
      rw [ofS_iff] at ox
      simp only
      omega
    · rw [sh_not oy]; exact h
theorem elems_sh (hg : M5.right g.t g.r = true) (h1 : g.t < T) (h2 : T ≤ 1099511627776) {k : Int} : ∀ (l : List Id3), elemsB g k l = true → elemsB (shG g T) k (l.map (shI g T)) = true := by
  intro l
  induction l with
  | nil => intro _; rfl
  | cons a l ih =>
    intro h
    cases l with
    | nil =>
      simp only [elemsB] at h
      simp only [List.map_cons, List.map_nil, elemsB]
      exact ahead_sh hg h1 h2 h
    | cons b l =>
      have hb : aheadI g k b = true := by
        have h3 := h
        simp only [elemsB, Bool.and_eq_true] at h3
        cases l with
        | nil => have h4 := h3.2; simp only [elemsB] at h4; exact h4
        | cons c l => have h4 := h3.2; simp only [elemsB, Bool.and_eq_true] at h4; exact h4.1.1
      simp only [elemsB, Bool.and_eq_true, decide_eq_true_eq] at h
      simp only [List.map_cons, elemsB, Bool.and_eq_true, decide_eq_true_eq]
      have h5 := ih h.2
      rw [List.map_cons] at h5
      exact ⟨⟨ahead_sh hg h1 h2 h.1.1, cmp_sh h1 h.1.1 hb h.1.2⟩, h5⟩
theorem opN_sh (hg : M5.right g.t g.r = true) (h1 : g.t < T) (h2 : T ≤ 1099511627776) {k : Int} {o : Opn} {n : Nat} (h : opN g k o = some n) : opN (shG g T) k (shOp g T o) = some n := by
  unfold opN at h ⊢
  have hk : (shOp g T o).kind = o.kind := rfl
  have ht : (shOp g T o).text = o.text := rfl
  have hnm : (shOp g T o).name = o.name := rfl
  rw [hk, ht, hnm]
  split at h
  · rename_i e
    rw [if_pos e]
    split at h
    · rename_i hc
      simp only [Bool.and_eq_true] at hc
      obtain ⟨⟨⟨c1, c2⟩, c3⟩, c4⟩ := hc
      rw [if_pos (by simp only [Bool.and_eq_true]; exact ⟨⟨⟨own_sh c1, parent_sh hg h1 h2 c2⟩, c3⟩, bare_sh hg c4⟩)]
      exact h
    · cases h
  · rename_i e0
    rw [if_neg e0]
    split at h
    · rename_i e
      rw [if_pos e]
      split at h
      · rename_i hc
        simp only [Bool.and_eq_true] at hc
        obtain ⟨⟨⟨c1, c2⟩, c3⟩, c4⟩ := hc
        rw [if_pos (by simp only [Bool.and_eq_true]; exact ⟨⟨⟨ahead_sh hg h1 h2 c1, parent_sh hg h1 h2 c2⟩, c3⟩, bare_sh hg c4⟩)]
        exact h
      · cases h
    · rename_i e1
      rw [if_neg e1]
      split at h
      · rename_i e
        rw [if_pos e]
        split at h
        · rename_i hc
          simp only [Bool.and_eq_true, decide_eq_true_eq] at hc
          obtain ⟨⟨c1, c2, c3⟩, c4⟩ := hc
          have hdl : (shOp g T o).dots.length = o.dots.length := by simp [shOp]
          rw [if_pos (by simp only [Bool.and_eq_true, decide_eq_true_eq]; exact ⟨⟨ahead_sh hg h1 h2 c1, dots_sh hg h1 h2 _ c2, by rw [hdl]; exact c3⟩, bare_sh hg c4⟩)]
          exact h
        · cases h
      · rename_i e2
        rw [if_neg e2]
        split at h
        · rename_i e
          rw [if_pos e]
          split at h
          · cases h
          · rename_i m hm
            split at h
            · rename_i hc
              simp only [Bool.and_eq_true, decide_eq_true_eq] at hc
              obtain ⟨⟨⟨⟨c1, c2⟩, c3⟩, c4⟩, c5⟩ := hc
              rw [if_pos (by simp only [Bool.and_eq_true, decide_eq_true_eq]; exact ⟨⟨⟨⟨ahead_sh hg h1 h2 c1, parent_sh hg h1 h2 c2⟩, own_sh c3⟩, c4⟩, bare_sh hg c5⟩)]
              exact h
            · cases h
        · rename_i e3
          rw [if_neg e3]
          split at h
          · rename_i e
            rw [if_pos e]
            split at h
            · rename_i hc
              simp only [Bool.and_eq_true, decide_eq_true_eq] at hc
              obtain ⟨⟨c1, c2, c3⟩, c4⟩ := hc
              have hel : (shOp g T o).elems.length = o.elems.length := by simp [shOp]
              rw [if_pos (by simp only [Bool.and_eq_true, decide_eq_true_eq]; exact ⟨⟨ahead_sh hg h1 h2 c1, elems_sh hg h1 h2 _ c2, by rw [hel]; exact c3⟩, bare_sh hg c4⟩)]
              exact h
            · cases h
          · cases h
theorem opsB_sh (hg : M5.right g.t g.r = true) (h1 : g.t < T) (h2 : T ≤ 1099511627776) : ∀ (l : List Opn) (k : Int), opsB g k l = true → opsB (shG g T) k (l.map (shOp g T)) = true := by
  intro l
  induction l with
  | nil => intro k _; rfl
  | cons a l ih =>
    intro k h
    unfold opsB at h
    rw [List.map_cons]
    unfold opsB
    cases hn : opN g k a with
    | none => rw [hn] at h; cases h
    | some n =>
      rw [hn] at h
      rw [opN_sh hg h1 h2 hn]
      exact ih _ h
/-- THE STAGE'S THEOREM on stamps. -/
theorem check_sh (h1 : g.t < T) (h2 : T ≤ 1099511627776) (h : check g = true) : check (shG g T) = true := by
  unfold check at h ⊢
  simp only [Bool.and_eq_true, decide_eq_true_eq] at h ⊢
  obtain ⟨⟨⟨⟨⟨a1, a2⟩, a3⟩, a4⟩, a5⟩, a6⟩ := h
  refine ⟨⟨⟨⟨⟨right_sh (g := g) (T := T) a1 h1 h2, a2⟩, a3⟩, a4⟩, a5⟩, ?_⟩
  by_cases hu : (g.ut == 0) = true ∧ (g.ur == 0) = true
  · rw [if_pos hu] at a6
    rw [if_pos (show ((shG g T).ut == 0) = true ∧ ((shG g T).ur == 0) = true from hu)]
    simp only [Bool.and_eq_true, decide_eq_true_eq] at a6 ⊢
    obtain ⟨⟨b1, b2⟩, b3⟩ := a6
    have hl : (shG g T).ops.length = g.ops.length := by simp [shG]
    exact ⟨⟨by rw [hl]; exact b1, by rw [hl]; exact b2⟩, opsB_sh a1 h1 h2 _ _ b3⟩
  · rw [if_neg hu] at a6
    rw [if_neg (show ¬ (((shG g T).ut == 0) = true ∧ ((shG g T).ur == 0) = true) from hu)]
    simp only [Bool.and_eq_true, decide_eq_true_eq] at a6 ⊢
    obtain ⟨⟨b1, b2⟩, b3⟩ := a6
    refine ⟨⟨b1, ?_⟩, by simp [shG, b3]⟩
    rw [bef_iff] at b2 ⊢
    simp only [shG] at b2 ⊢
    omega
end

end Go.Proofs.Ytphnimmhjnhajaa.M8

/-
  Layer 6, plain mathematics: identifiers, rows of parts, names replaced.
-/
namespace Go.Proofs.Ytphnimmhjnhajaa.M6
open Go.RowKit
set_option linter.unusedVariables false

def letterN (c : Nat) : Bool := (65 ≤ c && c ≤ 90) || (97 ≤ c && c ≤ 122) || c == 95
def partN (c : Nat) : Bool := letterN c || (48 ≤ c && c ≤ 57)
theorem part_lt {c : Nat} (h : partN c = true) : c < 128 := by
  simp [partN, letterN] at h; omega
theorem letter_part {c : Nat} (h : letterN c = true) : partN c = true := by simp [partN, h]
/-- Is it an identifier? -/
def identB : List UInt8 → Bool
  | [] => false
  | b :: r => letterN b.toNat && r.all fun x => partN x.toNat
theorem identB_parts {l : List UInt8} (h : identB l = true) : ∀ b ∈ l, partN b.toNat = true := by
  match l with
  | [] => simp
  | b :: r =>
    simp only [identB, Bool.and_eq_true, List.all_eq_true] at h
    intro x hx
    rcases List.mem_cons.1 hx with rfl | hx
    · exact letter_part h.1
    · exact h.2 x hx
theorem identB_ne {l : List UInt8} (h : identB l = true) : l ≠ [] := by rintro rfl; cases h
/-- A text of parts, as code points. -/
def nums (l : List UInt8) : List Nat := l.map UInt8.toNat
theorem nums_len (l : List UInt8) : (nums l).length = l.length := by simp [nums]
theorem flat_parts : ∀ {cs : List Nat}, (∀ c ∈ cs, partN c = true) → flat cs = cs.map UInt8.ofNat := by
  intro cs
  induction cs with
  | nil => intro _; rfl
  | cons c cs ih =>
    intro h
    rw [flat_cons, enc1 (part_lt (h c (by simp))), ih (fun x hx => h x (by simp [hx]))]; rfl
theorem flat_nums {l : List UInt8} (h : ∀ b ∈ l, partN b.toNat = true) : flat (nums l) = l := by
  rw [flat_parts (by intro c hc; obtain ⟨b, hb, rfl⟩ := List.mem_map.1 hc; exact h b hb)]
  unfold nums
  rw [List.map_map]
  conv => rhs; rw [← List.map_id l]
  apply List.map_congr_left
  intro b _
  simp
theorem flat_row {r : List Nat} (hr : ∀ c ∈ r, partN c = true) {l : List UInt8} (hl : ∀ b ∈ l, partN b.toNat = true) : flat r = l ↔ r = nums l := by
  constructor
  · intro h
    rw [← h, flat_parts hr]
    unfold nums
    rw [List.map_map]
    conv => lhs; rw [← List.map_id r]
    apply List.map_congr_left
    intro c hc
    have := part_lt (hr c hc)
    simp
    omega
  · intro h; rw [h, flat_nums hl]
theorem nums_parts {l : List UInt8} (h : ∀ b ∈ l, partN b.toNat = true) : ∀ c ∈ nums l, partN c = true := by
  intro c hc; obtain ⟨b, hb, rfl⟩ := List.mem_map.1 hc; exact h b hb
theorem nums_inj {a b : List UInt8} (h : nums a = nums b) : a = b := by
  have e : ∀ l : List UInt8, (nums l).map UInt8.ofNat = l := fun l => by
    unfold nums
    rw [List.map_map]
    conv => rhs; rw [← List.map_id l]
    apply List.map_congr_left
    intro b _
    simp
  rw [← e a, h, e b]

/-- Rows of parts, with what stands between them. -/
def cutT : List Nat → List Nat × List (Nat × List Nat)
  | [] => ([], [])
  | c :: cs => if partN c then (c :: (cutT cs).1, (cutT cs).2) else ([], (c, (cutT cs).1) :: (cutT cs).2)
def glue (t : List Nat × List (Nat × List Nat)) : List Nat := t.1 ++ t.2.flatMap fun p => p.1 :: p.2
theorem glue_cut (cs : List Nat) : glue (cutT cs) = cs := by
  induction cs with
  | nil => rfl
  | cons c cs ih =>
    unfold cutT
    split
    · show (c :: (cutT cs).1) ++ _ = _
      rw [List.cons_append]
      exact congrArg _ ih
    · show [] ++ (c :: (cutT cs).1 ++ _) = _
      rw [List.nil_append, List.cons_append]
      exact congrArg _ ih
/-- Rows are parts, what is between them is none. -/
structure Fine (t : List Nat × List (Nat × List Nat)) : Prop where
  head : ∀ c ∈ t.1, partN c = true
  rows : ∀ p ∈ t.2, partN p.1 = false ∧ ∀ c ∈ p.2, partN c = true
theorem cut_fine (cs : List Nat) : Fine (cutT cs) := by
  induction cs with
  | nil => exact ⟨by simp [cutT], by simp [cutT]⟩
  | cons c cs ih =>
    unfold cutT
    split
    · rename_i h
      exact ⟨by simpa using ⟨h, ih.head⟩, ih.rows⟩
    · rename_i h
      refine ⟨by simp, ?_⟩
      intro p hp
      rcases List.mem_cons.1 hp with rfl | hp
      · exact ⟨by simpa using h, ih.head⟩
      · exact ih.rows p hp
theorem cut_row {r : List Nat} (hr : ∀ c ∈ r, partN c = true) (cs : List Nat) : cutT (r ++ cs) = (r ++ (cutT cs).1, (cutT cs).2) := by
  induction r with
  | nil => rfl
  | cons c r ih =>
    rw [List.cons_append]
    conv => lhs; unfold cutT
    rw [if_pos (hr c (by simp)), ih (fun x hx => hr x (by simp [hx]))]
    rfl
theorem cut_glue : ∀ (ts : List (Nat × List Nat)) (r : List Nat), Fine (r, ts) → cutT (glue (r, ts)) = (r, ts) := by
  intro ts
  induction ts with
  | nil => intro r h; show cutT (r ++ []) = _; rw [cut_row h.head]; simp [cutT]
  | cons p ts ih =>
    intro r h
    obtain ⟨h1, h2⟩ := h.rows p (by simp)
    have hf : Fine (p.2, ts) := ⟨h2, fun q hq => h.rows q (by simp [hq])⟩
    show cutT (r ++ (p.1 :: (p.2 ++ ts.flatMap fun p => p.1 :: p.2))) = _
    rw [cut_row h.head]
    conv => lhs; unfold cutT
    rw [if_neg (by rw [h1]; simp)]
    have := ih p.2 hf
    unfold glue at this
    rw [this]
    simp

/-- Where rows that are nm begin and end; the first row begins at i. -/
def spans (nm : List Nat) (i : Nat) (r : List Nat) : List (Nat × List Nat) → List (Nat × Nat)
  | [] => if r = nm then [(i, i + r.length)] else []
  | p :: ts => (if r = nm then [(i, i + r.length)] else []) ++ spans nm (i + r.length + 1) p.2 ts
/-- How many rows are nm. -/
def cnt (nm : List Nat) (t : List Nat × List (Nat × List Nat)) : Nat := (t.1 :: t.2.map Prod.snd).count nm
theorem spans_len (nm : List Nat) : ∀ (ts : List (Nat × List Nat)) (r : List Nat) (i : Nat), (spans nm i r ts).length = cnt nm (r, ts) := by
  intro ts
  induction ts with
  | nil => intro r i; unfold spans cnt; by_cases h : r = nm <;> simp [h]
  | cons p ts ih =>
    intro r i
    unfold spans
    rw [List.length_append, ih]
    unfold cnt
    rw [List.map_cons, List.count_cons (a := nm) (b := r)]
    by_cases h : r = nm <;> simp [h]
    omega
def mapT (f : List Nat → List Nat) (t : List Nat × List (Nat × List Nat)) : List Nat × List (Nat × List Nat) := (f t.1, t.2.map fun p => (p.1, f p.2))
/-- By in the place of nm. -/
def sw (nm by' r : List Nat) : List Nat := if r = nm then by' else r
theorem fine_map {t : List Nat × List (Nat × List Nat)} (h : Fine t) {nm by' : List Nat} (hb : ∀ c ∈ by', partN c = true) : Fine (mapT (sw nm by') t) := by
  have hs : ∀ r : List Nat, (∀ c ∈ r, partN c = true) → ∀ c ∈ sw nm by' r, partN c = true := by
    intro r hr c hc; unfold sw at hc; split at hc; exact hb c hc; exact hr c hc
  refine ⟨hs _ h.head, ?_⟩
  intro p hp
  obtain ⟨q, hq, rfl⟩ := List.mem_map.1 hp
  exact ⟨(h.rows q hq).1, hs _ (h.rows q hq).2⟩
/-- What Replace answers. -/
def swapped (nm by' cs : List Nat) : List Nat := glue (mapT (sw nm by') (cutT cs))
theorem cut_swapped {nm by' : List Nat} (hb : ∀ c ∈ by', partN c = true) (cs : List Nat) : cutT (swapped nm by' cs) = mapT (sw nm by') (cutT cs) :=
  cut_glue _ _ (fine_map (cut_fine cs) hb)
theorem map_id {nm : List Nat} (t : List Nat × List (Nat × List Nat)) : mapT (sw nm nm) t = t := by
  have h : ∀ r, sw nm nm r = r := by intro r; unfold sw; split <;> simp_all
  unfold mapT
  simp [h]
theorem swapped_self (nm cs : List Nat) : swapped nm nm cs = cs := by unfold swapped; rw [map_id, glue_cut]
theorem count_sw {nm by' : List Nat} (hne : nm ≠ by') : ∀ (l : List (List Nat)), (l.map (sw nm by')).count nm = 0 ∧ (l.map (sw nm by')).count by' = l.count nm + l.count by' := by
  intro l
  induction l with
  | nil => simp
  | cons r l ih =>
    rw [List.map_cons]
    simp only [List.count_cons, ih]
    unfold sw
    by_cases h : r = nm
    · have h2 : ¬ by' = nm := fun e => hne e.symm
      subst h
      simp [h2, hne]
      omega
    · simp only [h, if_false]
      by_cases h3 : r = by' <;> simp [h, h3]
      rw [h3] at h; simp [h]; omega
theorem rows_map (f : List Nat → List Nat) (t : List Nat × List (Nat × List Nat)) : ((mapT f t).1 :: (mapT f t).2.map Prod.snd) = (t.1 :: t.2.map Prod.snd).map f := by
  unfold mapT; simp
theorem cnt_map {nm by' : List Nat} (hne : nm ≠ by') (t : List Nat × List (Nat × List Nat)) : cnt nm (mapT (sw nm by') t) = 0 ∧ cnt by' (mapT (sw nm by') t) = cnt nm t + cnt by' t := by
  unfold cnt
  rw [rows_map]
  exact count_sw hne _
theorem sw_back {nm by' : List Nat} (r : List Nat) (h : r ≠ by') : sw by' nm (sw nm by' r) = r := by
  unfold sw
  by_cases h1 : r = nm
  · simp [h1]
  · simp [h1, h]
theorem map_back {nm by' : List Nat} {t : List Nat × List (Nat × List Nat)} (h : cnt by' t = 0) : mapT (sw by' nm) (mapT (sw nm by') t) = t := by
  unfold cnt at h
  rw [List.count_eq_zero] at h
  have h1 : t.1 ≠ by' := fun e => h (by simp [e])
  have h2 : ∀ p ∈ t.2, p.2 ≠ by' := fun p hp e => h (by rw [← e]; exact List.mem_cons_of_mem _ (List.mem_map_of_mem hp))
  obtain ⟨r, ts⟩ := t
  unfold mapT
  simp only [List.map_map]
  rw [sw_back r h1]
  congr 1
  conv => rhs; rw [← List.map_id ts]
  apply List.map_congr_left
  intro p hp
  show (p.1, sw by' nm (sw nm by' p.2)) = p
  rw [sw_back p.2 (h2 p hp)]

/-- What is put together of a text, its spans and what is put in their place; done says what was read. -/
def repl (cs by' : List Nat) (done : Nat) : List (Nat × Nat) → List Nat
  | [] => cs.drop done
  | p :: ps => (cs.drop done).take (p.1 - done) ++ by' ++ repl cs by' p.2 ps
/-- The spans lie one behind the other. -/
def Chain (n : Nat) : Nat → List (Nat × Nat) → Prop
  | d, [] => d ≤ n
  | d, p :: ps => d ≤ p.1 ∧ p.1 ≤ p.2 ∧ Chain n p.2 ps
theorem Chain.le {n : Nat} : ∀ {ps : List (Nat × Nat)} {d : Nat}, Chain n d ps → d ≤ n := by
  intro ps
  induction ps with
  | nil => intro d h; exact h
  | cons p ps ih => intro d h; have := ih h.2.2; have := h.1; have := h.2.1; omega
theorem Chain.weak {n : Nat} : ∀ {ps : List (Nat × Nat)} {d e : Nat}, Chain n d ps → e ≤ d → Chain n e ps := by
  intro ps
  cases ps with
  | nil => intro d e h he; exact Nat.le_trans he h
  | cons p ps => intro d e h he; exact ⟨Nat.le_trans he h.1, h.2⟩
theorem spans_chain (nm : List Nat) (n : Nat) : ∀ (ts : List (Nat × List Nat)) (r : List Nat) (i : Nat), i + (glue (r, ts)).length ≤ n → Chain n i (spans nm i r ts) := by
  intro ts
  induction ts with
  | nil =>
    intro r i h
    have h : i + (r ++ []).length ≤ n := h
    rw [List.append_nil] at h
    unfold spans
    split
    · exact ⟨Nat.le_refl _, by simp, by simpa [Chain] using h⟩
    · simp only [Chain]; omega
  | cons p ts ih =>
    intro r i h
    have h : i + (r ++ (p.1 :: (p.2 ++ ts.flatMap fun p => p.1 :: p.2))).length ≤ n := h
    have hi := ih p.2 (i + r.length + 1) (by unfold glue; simp at h ⊢; omega)
    unfold spans
    split
    · exact ⟨Nat.le_refl _, by simp, hi.weak (by simp)⟩
    · exact hi.weak (by omega)
theorem repl_spans (nm by' cs : List Nat) : ∀ (ts : List (Nat × List Nat)) (r : List Nat) (i d : Nat), cs.drop i = glue (r, ts) → d ≤ i →
    repl cs by' d (spans nm i r ts) = (cs.drop d).take (i - d) ++ glue (mapT (sw nm by') (r, ts)) := by
  intro ts
  induction ts with
  | nil =>
    intro r i d h hd
    have hg : glue (r, []) = r := by simp [glue]
    have hm : glue (mapT (sw nm by') (r, [])) = sw nm by' r := by simp [glue, mapT]
    rw [hg] at h
    rw [hm]
    unfold spans sw
    by_cases hr : r = nm
    · rw [if_pos hr, if_pos hr]
      simp only [repl]
      rw [← List.drop_drop, h]
      simp
    · rw [if_neg hr, if_neg hr]
      simp only [repl]
      conv => lhs; rw [← List.take_append_drop (i - d) (cs.drop d), List.drop_drop, show d + (i - d) = i by omega, h]
  | cons p ts ih =>
    intro r i d h hd
    have h0 : cs.drop i = r ++ (p.1 :: glue (p.2, ts)) := by rw [h]; simp [glue]
    have hnext : cs.drop (i + r.length + 1) = glue (p.2, ts) := by rw [show i + r.length + 1 = i + (r.length + 1) by omega, ← List.drop_drop, h0, ← List.drop_drop, List.drop_left]; rfl
    have hm : glue (mapT (sw nm by') (r, p :: ts)) = sw nm by' r ++ (p.1 :: glue (mapT (sw nm by') (p.2, ts))) := by simp [glue, mapT]
    have hd1 : cs.drop (i + r.length) = p.1 :: glue (p.2, ts) := by rw [← List.drop_drop, h0, List.drop_left]
    rw [hm]
    unfold spans
    by_cases hr : r = nm
    · rw [if_pos hr]
      simp only [List.cons_append, List.nil_append, repl]
      rw [ih p.2 _ (i + r.length) hnext (by omega), hd1, show i + r.length + 1 - (i + r.length) = 1 by omega]
      unfold sw
      rw [if_pos hr]
      simp
    · rw [if_neg hr, List.nil_append, ih p.2 _ d hnext (by omega)]
      unfold sw
      rw [if_neg hr]
      have e : (cs.drop d).take (i + r.length + 1 - d) = (cs.drop d).take (i - d) ++ (r ++ [p.1]) := by
        rw [show i + r.length + 1 - d = (i - d) + (r.length + 1) by omega, List.take_add, List.drop_drop, show d + (i - d) = i by omega, h0]
        congr 1
        rw [show r.length + 1 = (r ++ [p.1]).length by simp, show r ++ p.1 :: glue (p.2, ts) = (r ++ [p.1]) ++ glue (p.2, ts) by simp, List.take_left]
      rw [e]
      simp

/-- All the spans of a text. -/
def found (nm cs : List Nat) : List (Nat × Nat) := spans nm 0 (cutT cs).1 (cutT cs).2
theorem found_len (nm cs : List Nat) : (found nm cs).length = cnt nm (cutT cs) := spans_len nm _ _ _
theorem found_chain (nm cs : List Nat) : Chain cs.length 0 (found nm cs) := spans_chain nm _ _ _ _ (by
  rw [show ((cutT cs).1, (cutT cs).2) = cutT cs from rfl, glue_cut]; omega)
theorem found_repl (nm by' cs : List Nat) : repl cs by' 0 (found nm cs) = swapped nm by' cs := by
  unfold found
  rw [repl_spans nm by' cs _ _ 0 0 (by rw [List.drop_zero, show ((cutT cs).1, (cutT cs).2) = cutT cs from rfl, glue_cut]) (Nat.le_refl _)]
  rfl
theorem chain_len {n : Nat} : ∀ {ps : List (Nat × Nat)} {d : Nat}, (∀ p ∈ ps, p.1 < p.2) → Chain n d ps → d + ps.length ≤ n := by
  intro ps
  induction ps with
  | nil => intro d _ h; exact h
  | cons p ps ih =>
    intro d hp h
    have h1 := ih (fun q hq => hp q (by simp [hq])) h.2.2
    have h2 := hp p (by simp)
    have h3 := h.1
    simp only [List.length_cons]; omega
theorem spans_pos {nm : List Nat} (hn : nm ≠ []) : ∀ (ts : List (Nat × List Nat)) (r : List Nat) (i : Nat), ∀ p ∈ spans nm i r ts, p.1 < p.2 := by
  have hone : ∀ (r : List Nat) (i : Nat), ∀ p ∈ (if r = nm then [(i, i + r.length)] else []), p.1 < p.2 := by
    intro r i p hp
    split at hp
    · rename_i h; rw [List.mem_singleton.1 hp]; have : 0 < r.length := List.length_pos_iff.2 (by rw [h]; exact hn); simp; omega
    · simp at hp
  intro ts
  induction ts with
  | nil => intro r i; exact hone r i
  | cons q ts ih =>
    intro r i p hp
    unfold spans at hp
    rcases List.mem_append.1 hp with hp | hp
    · exact hone r i p hp
    · exact ih q.2 _ p hp
theorem found_le {nm : List Nat} (hn : nm ≠ []) (cs : List Nat) : (found nm cs).length ≤ cs.length := by
  have := chain_len (ps := found nm cs) (spans_pos hn _ _ _) (found_chain nm cs)
  omega

/-- The program's way: rows end where a code point is no part. -/
theorem spans_end {nm : List Nat} {cs : List Nat} {b i : Nat} (hb : b ≤ i) (hi : i < cs.length) (hp : ∀ c ∈ (cs.drop b).take (i - b), partN c = true) (hc : partN cs[i] = false) :
    spans nm b (cutT (cs.drop b)).1 (cutT (cs.drop b)).2 = (if (cs.drop b).take (i - b) = nm then [(b, i)] else []) ++ spans nm (i + 1) (cutT (cs.drop (i + 1))).1 (cutT (cs.drop (i + 1))).2 := by
  have e : cs.drop b = (cs.drop b).take (i - b) ++ (cs[i] :: cs.drop (i + 1)) := by
    conv => lhs; rw [← List.take_append_drop (i - b) (cs.drop b), List.drop_drop, show b + (i - b) = i by omega, List.drop_eq_getElem_cons hi]
  have hl : ((cs.drop b).take (i - b)).length = i - b := by rw [List.length_take, List.length_drop]; omega
  have hcut : cutT (cs.drop b) = ((cs.drop b).take (i - b), (cs[i], (cutT (cs.drop (i + 1))).1) :: (cutT (cs.drop (i + 1))).2) := by
    conv => lhs; rw [e]
    rw [cut_row hp]
    conv => lhs; unfold cutT
    rw [if_neg (by rw [hc]; simp)]
    simp
  rw [hcut]
  conv => lhs; unfold spans
  simp only []
  rw [hl, show b + (i - b) = i by omega]
theorem spans_last {nm : List Nat} {cs : List Nat} {b : Nat} (hb : b ≤ cs.length) (hp : ∀ c ∈ (cs.drop b).take (cs.length - b), partN c = true) :
    spans nm b (cutT (cs.drop b)).1 (cutT (cs.drop b)).2 = if (cs.drop b).take (cs.length - b) = nm then [(b, cs.length)] else [] := by
  have e : (cs.drop b).take (cs.length - b) = cs.drop b := by rw [List.take_of_length_le (by rw [List.length_drop]; omega)]
  rw [e] at hp ⊢
  have hcut : cutT (cs.drop b) = (cs.drop b, []) := by
    have := cut_row hp []
    rw [List.append_nil] at this
    rw [this]; simp [cutT]
  rw [hcut]
  unfold spans
  rw [List.length_drop, show b + (cs.length - b) = cs.length by omega]

/-- The document's way: at each place, whether a row begins there. -/
def spansD (nm : List Nat) (fresh : Bool) (i : Nat) (cs : List Nat) : List (Nat × Nat) :=
  if fresh then spans nm i (cutT cs).1 (cutT cs).2 else match (cutT cs).2 with
    | [] => []
    | p :: ts => spans nm (i + (cutT cs).1.length + 1) p.2 ts
theorem spansD_nil (nm : List Nat) (hn : nm ≠ []) (f : Bool) (i : Nat) : spansD nm f i [] = [] := by
  unfold spansD
  cases f
  · rfl
  · simp only [if_true, cutT, spans]; rw [if_neg (fun h => hn h.symm)]
theorem spansD_none {nm : List Nat} (hn : nm ≠ []) (f : Bool) (i : Nat) {c : Nat} (cs : List Nat) (hc : partN c = false) : spansD nm f i (c :: cs) = spansD nm true (i + 1) cs := by
  unfold spansD
  have hcut : cutT (c :: cs) = ([], (c, (cutT cs).1) :: (cutT cs).2) := by
    conv => lhs; unfold cutT
    rw [if_neg (by rw [hc]; simp)]
  rw [hcut]
  cases f
  · simp
  · simp only [if_true, spans]
    rw [if_neg (fun h => hn h.symm)]
    simp
theorem spansD_on {nm : List Nat} (i : Nat) {c : Nat} (cs : List Nat) (hc : partN c = true) : spansD nm false i (c :: cs) = spansD nm false (i + 1) cs := by
  unfold spansD
  have hcut : cutT (c :: cs) = (c :: (cutT cs).1, (cutT cs).2) := by
    conv => lhs; unfold cutT
    rw [if_pos hc]
  rw [hcut]
  simp only [Bool.false_eq_true, if_false, List.length_cons]
  cases h : (cutT cs).2 with
  | nil => rfl
  | cons p ts => simp only []; rw [show i + ((cutT cs).1.length + 1) + 1 = i + 1 + (cutT cs).1.length + 1 by omega]
theorem spansD_row {nm : List Nat} (i : Nat) {c : Nat} (cs : List Nat) (hc : partN c = true) :
    spansD nm true i (c :: cs) = (if (cutT (c :: cs)).1 = nm then [(i, i + (cutT (c :: cs)).1.length)] else []) ++ spansD nm false (i + 1) cs := by
  rw [← spansD_on (nm := nm) i cs hc]
  unfold spansD
  simp only [if_true, Bool.false_eq_true, if_false]
  cases h : (cutT (c :: cs)).2 with
  | nil => simp [spans]
  | cons p ts => simp [spans]
/-- A row's end. -/
theorem cut_take {cs : List Nat} {i k : Nat} (hik : i ≤ k) (hk : k ≤ cs.length) (hp : ∀ c ∈ (cs.drop i).take (k - i), partN c = true) (he : k = cs.length ∨ ∃ h : k < cs.length, partN cs[k] = false) :
    (cutT (cs.drop i)).1 = (cs.drop i).take (k - i) := by
  have e : cs.drop i = (cs.drop i).take (k - i) ++ cs.drop k := by
    conv => lhs; rw [← List.take_append_drop (k - i) (cs.drop i), List.drop_drop, show i + (k - i) = k by omega]
  conv => lhs; rw [e]
  rw [cut_row hp]
  have : (cutT (cs.drop k)).1 = [] := by
    rcases he with rfl | ⟨h, hc⟩
    · simp [cutT]
    · rw [List.drop_eq_getElem_cons h]
      unfold cutT
      rw [if_neg (by rw [hc]; simp)]
  rw [this, List.append_nil]
theorem swapped_ok {nm by' cs : List Nat} (hcs : ∀ c ∈ cs, okc c) (hb : ∀ c ∈ by', partN c = true) : ∀ c ∈ swapped nm by' cs, okc c := by
  have hpo : ∀ c, partN c = true → okc c := fun c h => by have := part_lt h; unfold okc; omega
  have hf := fine_map (nm := nm) (cut_fine cs) hb
  intro c hc
  rcases List.mem_append.1 hc with h | h
  · exact hpo c (hf.head c h)
  · obtain ⟨p, hp, hcp⟩ := List.mem_flatMap.1 h
    rcases List.mem_cons.1 hcp with rfl | hcp
    · obtain ⟨q, hq, rfl⟩ := List.mem_map.1 hp
      refine hcs _ ?_
      rw [← glue_cut cs]
      exact List.mem_append_right _ (List.mem_flatMap.2 ⟨q, hq, by simp⟩)
    · exact hpo c ((hf.rows p hp).2 c hcp)
theorem repl_len (cs by' : List Nat) : ∀ (ps : List (Nat × Nat)) (d : Nat), Chain cs.length d ps → (repl cs by' d ps).length ≤ (cs.length - d) + by'.length * ps.length := by
  intro ps
  induction ps with
  | nil => intro d h; simp [repl]
  | cons p ps ih =>
    intro d h
    have h1 := ih p.2 h.2.2
    have h2 := h.1
    have h3 := h.2.1
    have h4 := h.2.2.le
    simp only [repl, List.length_append, List.length_take, List.length_drop, List.length_cons, Nat.mul_add, Nat.mul_one] at *
    omega

end Go.Proofs.Ytphnimmhjnhajaa.M6
