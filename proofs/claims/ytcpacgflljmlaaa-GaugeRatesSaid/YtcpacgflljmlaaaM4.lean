/-
  Layer 4's plain mathematics: floats by their bits, in their order.
-/
import Derived.Laws.FloatArith
namespace Go.Proofs.Ytcpacgflljmlaaa
set_option linter.unusedVariables false

def rung (b : Nat) : Nat := b % 9223372036854775808
def sgn (b : Nat) : Bool := b / 9223372036854775808 % 2 == 1
def isnan (b : Nat) : Bool := decide (9218868437227405312 < rung b)
/-- The magnitude's rung with its sign. -/
def sr (b : Nat) : Int := if sgn b then -(rung b : Int) else rung b
def mono (r : Nat) : Nat := if r < 4503599627370496 then r else (4503599627370496 + r % 4503599627370496) * 2 ^ (r / 4503599627370496 - 1)

theorem mono_lt {r r' : Nat} (h : r < r') : mono r < mono r' := by
  unfold mono
  by_cases h1 : r' < 4503599627370496
  · rw [if_pos (by omega), if_pos h1]; exact h
  · rw [if_neg h1]
    have p' : 1 ≤ 2 ^ (r' / 4503599627370496 - 1) := Nat.one_le_two_pow
    by_cases h2 : r < 4503599627370496
    · rw [if_pos h2]
      have := Nat.mul_le_mul (Nat.le_add_right 4503599627370496 (r' % 4503599627370496)) p'
      omega
    · rw [if_neg h2]
      have p : 1 ≤ 2 ^ (r / 4503599627370496 - 1) := Nat.one_le_two_pow
      by_cases h3 : r / 4503599627370496 = r' / 4503599627370496
      · rw [h3]
        exact Nat.mul_lt_mul_of_pos_right (by omega) p'
      · have h4 : r / 4503599627370496 < r' / 4503599627370496 := by omega
        have h5 : (4503599627370496 + r % 4503599627370496) * 2 ^ (r / 4503599627370496 - 1) < (2 * 4503599627370496) * 2 ^ (r / 4503599627370496 - 1) :=
          Nat.mul_lt_mul_of_pos_right (by omega) p
        have h6 : (2 * 4503599627370496) * 2 ^ (r / 4503599627370496 - 1) = 4503599627370496 * 2 ^ (r / 4503599627370496) := by
          rw [Nat.mul_comm 2, Nat.mul_assoc]
          congr 1
          conv => rhs; rw [show r / 4503599627370496 = (r / 4503599627370496 - 1) + 1 by omega]
          rw [Nat.pow_succ, Nat.mul_comm]
        have h7 : (2 : Nat) ^ (r / 4503599627370496) ≤ 2 ^ (r' / 4503599627370496 - 1) := Nat.pow_le_pow_right (by omega) (by omega)
        have h8 := Nat.mul_le_mul (Nat.le_add_right 4503599627370496 (r' % 4503599627370496)) h7
        omega

theorem mono_inj {r r' : Nat} (h : mono r = mono r') : r = r' := by
  rcases Nat.lt_trichotomy r r' with h1 | h1 | h1
  · have := mono_lt h1; omega
  · exact h1
  · have := mono_lt h1; omega

def sval (b : Nat) : Int := if sgn b then -(mono (rung b) : Int) else mono (rung b)

theorem compare_int (a b : Int) : compare a b = if a < b then .lt else if a = b then .eq else .gt := rfl
theorem mono_zero : mono 0 = 0 := rfl
theorem mono_pos {r : Nat} (h : 0 < r) : 0 < mono r := by have := mono_lt h; rw [mono_zero] at this; exact this

theorem compare_sval (a b : Nat) : compare (sval a) (sval b) = compare (sr a) (sr b) := by
  rw [compare_int, compare_int]
  have e1 : sval a < sval b ↔ sr a < sr b := by
    unfold sval sr
    rcases Nat.lt_trichotomy (rung a) (rung b) with h | h | h
    · have := mono_lt h
      split <;> split <;> omega
    · rw [h]
      have h0 : mono (rung b) = 0 ↔ rung b = 0 := ⟨fun e => by rcases Nat.eq_zero_or_pos (rung b) with z | z; exact z; have := mono_pos z; omega, fun e => by rw [e]; rfl⟩
      split <;> split <;> omega
    · have := mono_lt h
      split <;> split <;> omega
  have e2 : sval a = sval b ↔ sr a = sr b := by
    unfold sval sr
    rcases Nat.lt_trichotomy (rung a) (rung b) with h | h | h
    · have := mono_lt h
      split <;> split <;> omega
    · rw [h]
      have h0 : mono (rung b) = 0 ↔ rung b = 0 := ⟨fun e => by rcases Nat.eq_zero_or_pos (rung b) with z | z; exact z; have := mono_pos z; omega, fun e => by rw [e]; rfl⟩
      split <;> split <;> omega
    · have := mono_lt h
      split <;> split <;> omega
  simp only [e1, e2]

/-- What a word stands for. -/
theorem read_nan {b : Nat} (h : isnan b = true) : ∃ t, Ieee.double.read b = .nan (sgn b) t := by
  have h1 : 9218868437227405312 < b % 9223372036854775808 := of_decide_eq_true h
  refine ⟨b % 9223372036854775808 - 9218868437227405312, ?_⟩
  show (if b % 9223372036854775808 < 4503599627370496 then _ else if b % 9223372036854775808 < 9218868437227405312 then _ else if b % 9223372036854775808 = 9218868437227405312 then _ else _) = _
  rw [if_neg (by omega), if_neg (by omega), if_neg (by omega)]
  rfl
theorem read_inf {b : Nat} (h : rung b = 9218868437227405312) : Ieee.double.read b = .infinity (sgn b) := by
  have h1 : b % 9223372036854775808 = 9218868437227405312 := h
  show (if b % 9223372036854775808 < 4503599627370496 then _ else if b % 9223372036854775808 < 9218868437227405312 then _ else if b % 9223372036854775808 = 9218868437227405312 then _ else _) = _
  rw [if_neg (by omega), if_neg (by omega), if_pos (by omega)]
  rfl
theorem read_num {b : Nat} (h : rung b < 9218868437227405312) : ∃ (m e : Nat), Ieee.double.read b = .number (sgn b) m (-1074 + (e : Int)) ∧ mono (rung b) = m * 2 ^ e := by
  have h1 : b % 9223372036854775808 < 9218868437227405312 := h
  by_cases h2 : b % 9223372036854775808 < 4503599627370496
  · refine ⟨b % 9223372036854775808, 0, ?_, ?_⟩
    · show (if b % 9223372036854775808 < 4503599627370496 then _ else if b % 9223372036854775808 < 9218868437227405312 then _ else if b % 9223372036854775808 = 9218868437227405312 then _ else _) = _
      rw [if_pos h2]
      rfl
    · unfold mono rung; rw [if_pos h2]; simp
  · refine ⟨4503599627370496 + b % 9223372036854775808 % 4503599627370496, b % 9223372036854775808 / 4503599627370496 - 1, ?_, ?_⟩
    · show (if b % 9223372036854775808 < 4503599627370496 then _ else if b % 9223372036854775808 < 9218868437227405312 then _ else if b % 9223372036854775808 = 9218868437227405312 then _ else _) = _
      rw [if_neg h2, if_pos h1]
      rfl
    · unfold mono rung; rw [if_neg h2]

theorem signed_eq (s : Bool) (m u : Nat) : Ieee.signed s m u = if s then -((m * 2 ^ u : Nat) : Int) else ((m * 2 ^ u : Nat) : Int) := by
  unfold Ieee.signed
  rw [Nat.shiftLeft_eq]

theorem signed_scale (s : Bool) (m u c : Nat) : Ieee.signed s m (u + c) = Ieee.signed s m u * 2 ^ c := by
  rw [signed_eq, signed_eq, Nat.pow_add, ← Nat.mul_assoc]
  split
  · rw [Int.neg_mul]; congr 1
  · rfl

theorem compare_scale (a b : Int) (c : Nat) : compare (a * 2 ^ c) (b * 2 ^ c) = compare a b := by
  have hp : (0 : Int) < 2 ^ c := Int.pow_pos (by decide)
  rw [compare_int, compare_int]
  have e1 : a * 2 ^ c < b * 2 ^ c ↔ a < b := ⟨fun h => Int.lt_of_mul_lt_mul_right h (Int.le_of_lt hp), fun h => Int.mul_lt_mul_of_pos_right h hp⟩
  have e2 : a * 2 ^ c = b * 2 ^ c ↔ a = b := ⟨fun h => Int.eq_of_mul_eq_mul_right (by omega) h, fun h => by rw [h]⟩
  simp only [e1, e2]

theorem order_num (s t : Bool) (m n e f : Nat) :
    Ieee.Datum.order (.number s m (-1074 + (e : Int))) (.number t n (-1074 + (f : Int))) = some (compare (Ieee.signed s m e) (Ieee.signed t n f)) := by
  show some (compare (Ieee.signed s m (-1074 + (e : Int) - min (-1074 + (e : Int)) (-1074 + (f : Int))).toNat) (Ieee.signed t n (-1074 + (f : Int) - min (-1074 + (e : Int)) (-1074 + (f : Int))).toNat)) = _
  congr 1
  have h1 : e = (-1074 + (e : Int) - min (-1074 + (e : Int)) (-1074 + (f : Int))).toNat + min e f := by omega
  have h2 : f = (-1074 + (f : Int) - min (-1074 + (e : Int)) (-1074 + (f : Int))).toNat + min e f := by omega
  have g1 : Ieee.signed s m e = Ieee.signed s m (-1074 + (e : Int) - min (-1074 + (e : Int)) (-1074 + (f : Int))).toNat * 2 ^ (min e f) := by rw [← signed_scale, ← h1]
  have g2 : Ieee.signed t n f = Ieee.signed t n (-1074 + (f : Int) - min (-1074 + (e : Int)) (-1074 + (f : Int))).toNat * 2 ^ (min e f) := by rw [← signed_scale, ← h2]
  rw [g1, g2, compare_scale]

theorem signed_sval {b m e : Nat} (h : mono (rung b) = m * 2 ^ e) : Ieee.signed (sgn b) m e = sval b := by
  rw [signed_eq, ← h]
  rfl

/-- HOW TWO FLOATS STAND, by their rungs. -/
theorem order_key (x y : Nat) : Ieee.double.order x y = if isnan x = true ∨ isnan y = true then none else some (compare (sr x) (sr y)) := by
  show (Ieee.double.read x).order (Ieee.double.read y) = _
  by_cases hx : isnan x = true
  · rw [if_pos (.inl hx)]
    obtain ⟨t, h⟩ := read_nan hx
    rw [h]; rfl
  by_cases hy : isnan y = true
  · rw [if_pos (.inr hy)]
    obtain ⟨t, h⟩ := read_nan hy
    rw [h]
    cases Ieee.double.read x <;> rfl
  rw [if_neg (by simp [hx, hy])]
  have rx : rung x ≤ 9218868437227405312 := by simpa [isnan] using hx
  have ry : rung y ≤ 9218868437227405312 := by simpa [isnan] using hy
  by_cases ix : rung x = 9218868437227405312
  · rw [read_inf ix]
    by_cases iy : rung y = 9218868437227405312
    · rw [read_inf iy]
      show some (compare (sgn y).toNat (sgn x).toNat) = _
      unfold sr
      rw [ix, iy]
      cases sgn x <;> cases sgn y <;> rfl
    · obtain ⟨n, f, h, hm⟩ := read_num (b := y) (by omega)
      rw [h]
      show some (if sgn x then Ordering.lt else .gt) = _
      rw [compare_int]
      unfold sr
      rw [ix]
      cases sgn x <;> cases sgn y <;> simp <;> first | omega | (split <;> omega) | skip
      all_goals (repeat' split) <;> first | rfl | omega
  · obtain ⟨m, e, h, hm⟩ := read_num (b := x) (by omega)
    rw [h]
    by_cases iy : rung y = 9218868437227405312
    · rw [read_inf iy]
      show some (if sgn y then Ordering.gt else .lt) = _
      rw [compare_int]
      unfold sr
      rw [iy]
      cases sgn x <;> cases sgn y <;> simp <;> first | omega | (split <;> omega) | skip
      all_goals (repeat' split) <;> first | rfl | omega
    · obtain ⟨n, f, h', hn⟩ := read_num (b := y) (by omega)
      rw [h', order_num, signed_sval hm, signed_sval hn, compare_sval]

/-- A float's place in the one order of all floats: NaN ahead of all. -/
def key (b : Nat) : Int := if isnan b then -18446744073709551616 else if sgn b then -1 - (rung b : Int) else rung b
def cmpF (a b : Nat) : Int := if key a < key b then -1 else if key b < key a then 1 else 0
def bitsOf (b : Nat) : Nat := if isnan b then 9221120237041090561 else b

theorem sgn_iff {b : Nat} (h : b < 18446744073709551616) : sgn b = true ↔ 9223372036854775808 ≤ b := by
  unfold sgn; rw [beq_iff_eq]; omega
theorem sgn_fa {b : Nat} (h : b < 18446744073709551616) : sgn b = false ↔ b < 9223372036854775808 := by
  unfold sgn; rw [beq_eq_false_iff_ne]; omega
theorem of_parts {b : Nat} (h : b < 18446744073709551616) : b = (if sgn b then 9223372036854775808 else 0) + rung b := by
  unfold rung
  by_cases hs : sgn b = true
  · have := (sgn_iff h).1 hs; rw [if_pos hs]; omega
  · rw [Bool.not_eq_true] at hs; have := (sgn_fa h).1 hs; rw [hs]; simp; omega
theorem rung_lt (b : Nat) : rung b < 9223372036854775808 := Nat.mod_lt _ (by decide)

theorem key_nan {b : Nat} (h : isnan b = true) : key b = -18446744073709551616 := by unfold key; rw [if_pos h]
theorem key_num {b : Nat} (h : isnan b = false) : key b = if sgn b then -1 - (rung b : Int) else rung b := by unfold key; rw [h]; rfl
theorem key_above {b : Nat} (h : isnan b = false) : -18446744073709551616 < key b := by
  rw [key_num h]; have := rung_lt b; split <;> omega
theorem key_inj {a b : Nat} (ha : a < 18446744073709551616) (hb : b < 18446744073709551616) (na : isnan a = false) (e : key a = key b) : a = b := by
  have nb : isnan b = false := by
    cases h : isnan b
    · rfl
    · have := key_above na; have := key_nan h; omega
  rw [key_num na, key_num nb] at e
  rw [of_parts ha, of_parts hb]
  cases h1 : sgn a <;> cases h2 : sgn b <;> simp [h1, h2] at e ⊢ <;> omega
theorem key_bits {a b : Nat} (ha : a < 18446744073709551616) (hb : b < 18446744073709551616) : key a = key b ↔ bitsOf a = bitsOf b := by
  unfold bitsOf
  cases na : isnan a <;> cases nb : isnan b
  · simp; exact ⟨key_inj ha hb na, fun h => by rw [h]⟩
  · have := key_above na; have := key_nan nb
    simp
    refine ⟨fun _ => by omega, fun h => ?_⟩
    subst h
    have : isnan 9221120237041090561 = true := by decide
    rw [this] at na; cases na
  · have := key_above nb; have := key_nan na
    simp
    refine ⟨fun _ => by omega, fun h => ?_⟩
    subst h
    have : isnan 9221120237041090561 = true := by decide
    rw [this] at nb; cases nb
  · simp [key_nan na, key_nan nb]

theorem cmpF_lt {a b : Nat} : cmpF a b < 0 ↔ key a < key b := by (unfold cmpF; repeat' split) <;> omega
theorem cmpF_zero {a b : Nat} : cmpF a b = 0 ↔ key a = key b := by (unfold cmpF; repeat' split) <;> omega
theorem cmpF_gt {a b : Nat} : 0 < cmpF a b ↔ key b < key a := by (unfold cmpF; repeat' split) <;> omega
theorem cmpF_neg (a b : Nat) : cmpF a b = - cmpF b a := by (unfold cmpF; repeat' split) <;> omega
theorem cmpF_in (a b : Nat) : -1 ≤ cmpF a b ∧ cmpF a b ≤ 1 := by (unfold cmpF; repeat' split) <;> omega

/-- The comparisons, each as a test of the bits. -/
theorem f_neq_self (b : Nat) : (Ieee.double.order b b != some .eq) = isnan b := by
  rw [order_key]
  cases h : isnan b
  · rw [if_neg (by simp)]
    have : compare (sr b) (sr b) = .eq := by rw [compare_int]; simp
    rw [this]; rfl
  · rw [if_pos (by simp)]; rfl
theorem f_eql_self (b : Nat) : (Ieee.double.order b b == some .eq) = !isnan b := by
  have := f_neq_self b
  unfold bne at this
  rw [← this, Bool.not_not]
theorem f_lss (a b : Nat) : (Ieee.double.order a b == some .lt) = decide (isnan a = false ∧ isnan b = false ∧ sr a < sr b) := by
  rw [order_key, compare_int]
  cases ha : isnan a <;> cases hb : isnan b <;> simp
  repeat' split
  all_goals simp_all
theorem f_gtr (a b : Nat) : (Ieee.double.order a b == some .gt) = decide (isnan a = false ∧ isnan b = false ∧ sr b < sr a) := by
  rw [order_key, compare_int]
  cases ha : isnan a <;> cases hb : isnan b <;> simp
  repeat' split
  all_goals simp_all
  all_goals omega
theorem f_eql (a b : Nat) : (Ieee.double.order a b == some .eq) = decide (isnan a = false ∧ isnan b = false ∧ sr a = sr b) := by
  rw [order_key, compare_int]
  cases ha : isnan a <;> cases hb : isnan b <;> simp
  repeat' split
  all_goals simp_all
  all_goals omega

end Go.Proofs.Ytcpacgflljmlaaa
