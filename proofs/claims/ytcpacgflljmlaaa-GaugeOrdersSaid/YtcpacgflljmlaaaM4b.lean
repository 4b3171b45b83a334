/-
  Layer 4's plain mathematics: what is reckoned with floats; the tests of the walks.
-/
import Derived.Test.YtcpacgflljmlaaaM4
import Derived.Deep.Draws
namespace Go.Proofs.Ytcpacgflljmlaaa
set_option linter.unusedVariables false

theorem ahead_nan {a b : Nat} (ha : isnan a = true) : decide (key a < key b) = !isnan b := by
  cases hb : isnan b
  · have := key_above hb; have := key_nan ha; simp; omega
  · have := key_nan ha; have := key_nan hb; simp; omega
theorem ahead_nanb {a b : Nat} (ha : isnan a = false) (hb : isnan b = true) : decide (key a < key b) = false := by
  have := key_above ha; have := key_nan hb; simp; omega
theorem ahead_eq {a b : Nat} (ha : isnan a = false) (hb : isnan b = false) (h : sr a = sr b) : decide (key a < key b) = (sgn a && !sgn b) := by
  rw [key_num ha, key_num hb]
  unfold sr at h
  cases h1 : sgn a <;> cases h2 : sgn b <;> simp [h1, h2] at h ⊢ <;> omega
theorem ahead_ne {a b : Nat} (ha : isnan a = false) (hb : isnan b = false) (h : sr a ≠ sr b) : decide (key a < key b) = decide (sr a < sr b) := by
  rw [key_num ha, key_num hb]
  unfold sr at *
  rw [decide_eq_decide]
  cases h1 : sgn a <;> cases h2 : sgn b <;> simp [h1, h2] at h ⊢ <;> omega

/-- The document's rank. -/
def rankF (f : Nat) : Int := if isnan f then 0 else if sr f < 0 then 1 else if sr f = 0 then (if sgn f then 2 else 3) else 4
theorem rank_in (f : Nat) : 0 ≤ rankF f ∧ rankF f ≤ 4 := by (unfold rankF; repeat' split) <;> omega
theorem rank_zero {f : Nat} : rankF f = 0 ↔ isnan f = true := by (unfold rankF; repeat' split) <;> simp_all
theorem rank_lt {a b : Nat} (h : rankF a < rankF b) : key a < key b := by
  unfold rankF at h
  cases na : isnan a <;> cases nb : isnan b
  · rw [key_num na, key_num nb]
    unfold sr at h
    cases h1 : sgn a <;> cases h2 : sgn b <;> simp [h1, h2, na, nb] at h ⊢ <;> (repeat' split at h) <;> omega
  · simp [na, nb] at h; exfalso; repeat' split at h
    all_goals omega
  · have := key_above nb; have := key_nan na; omega
  · simp [na, nb] at h
theorem rank_eq {a b : Nat} (h : rankF a = rankF b) (h0 : rankF a = 0 ∨ sr a = sr b) : key a = key b := by
  by_cases na : isnan a = true
  · have nb : isnan b = true := rank_zero.1 (by rw [← h]; exact rank_zero.2 na)
    rw [key_nan na, key_nan nb]
  · have na' : isnan a = false := by simpa using na
    have nb' : isnan b = false := by
      cases hb : isnan b
      · rfl
      · exact absurd (rank_zero.1 (by rw [h]; exact rank_zero.2 hb)) na
    have h1 : sr a = sr b := h0.resolve_left (fun e => na (rank_zero.1 e))
    rw [key_num na', key_num nb']
    unfold rankF at h
    unfold sr at *
    cases h1 : sgn a <;> cases h2 : sgn b <;> simp_all <;> (repeat' split at h) <;> omega
theorem rank_ne {a b : Nat} (h : rankF a = rankF b) (h0 : rankF a ≠ 0) (h1 : sr a ≠ sr b) : key a < key b ↔ sr a < sr b := by
  have na : isnan a = false := by
    cases h2 : isnan a
    · rfl
    · exact absurd (rank_zero.2 h2) h0
  have nb : isnan b = false := by
    cases h2 : isnan b
    · rfl
    · exact absurd (rank_zero.2 h2) (by rw [← h]; exact h0)
  have := ahead_ne na nb h1
  rwa [decide_eq_decide] at this

/-- What is written is a float, and no NaN. -/
theorem word_parts (s : Bool) {r : Nat} (h : r ≤ 9218868437227405312) : Ieee.double.word s r < 18446744073709551616 ∧ rung (Ieee.double.word s r) = r ∧ sgn (Ieee.double.word s r) = s := by
  have e : Ieee.double.word s r = (if s then 9223372036854775808 + r else r) := rfl
  rw [e]
  unfold rung sgn
  cases s <;> simp <;> omega
theorem write_ok {d : Ieee.Datum} (h : d.isNaN = false) : isnan (Ieee.double.write d) = false ∧ Ieee.double.write d < 18446744073709551616 := by
  cases d with
  | number s m p =>
    show isnan (Ieee.double.nearest s m p) = false ∧ Ieee.double.nearest s m p < 18446744073709551616
    unfold Ieee.Format.nearest
    split
    · obtain ⟨h1, h2, h3⟩ := word_parts s (r := 0) (by omega)
      exact ⟨by unfold isnan; rw [h2]; rfl, h1⟩
    · dsimp only
      generalize ((_ : Int).toNat * _ + _) = z
      have hz : min z Ieee.double.infRung ≤ 9218868437227405312 := Nat.min_le_right _ _
      obtain ⟨h1, h2, h3⟩ := word_parts s hz
      exact ⟨by unfold isnan; rw [h2]; simp; omega, h1⟩
  | infinity s =>
    obtain ⟨h1, h2, h3⟩ := word_parts s (r := 9218868437227405312) (Nat.le_refl _)
    exact ⟨by show isnan (Ieee.double.word s 9218868437227405312) = false; unfold isnan; rw [h2]; rfl, h1⟩
  | nan s t => cases h
theorem sum_ok {x y d : Ieee.Datum} (h : x.sum y = some d) : d.isNaN = false := by
  cases x <;> cases y <;> simp [Ieee.Datum.sum] at h
  all_goals first | (subst h; rfl) | (obtain ⟨_, h⟩ := h; subst h; rfl)
theorem quot_ok {n : Nat} {x y d : Ieee.Datum} (h : x.quotient n y = some d) : d.isNaN = false := by
  cases x <;> cases y <;> simp only [Ieee.Datum.quotient] at h
  all_goals (repeat' split at h)
  all_goals first | (cases h; done) | (cases h; rfl)
theorem add_ok {x y r : Nat} (h : Ieee.double.add x y = some r) : isnan r = false ∧ r < 18446744073709551616 := by
  unfold Ieee.Format.add at h
  obtain ⟨d, hd, rfl⟩ := Option.map_eq_some_iff.1 h
  exact write_ok (sum_ok hd)
theorem div_ok {x y r : Nat} (h : Ieee.double.div x y = some r) : isnan r = false ∧ r < 18446744073709551616 := by
  unfold Ieee.Format.div at h
  obtain ⟨d, hd, rfl⟩ := Option.map_eq_some_iff.1 h
  exact write_ok (quot_ok hd)

/-- f - f. -/
def isfin (f : Nat) : Bool := decide (rung f < 9218868437227405312)
theorem sub_fin {f : Nat} (h : isfin f = true) : Ieee.double.sub f f = some 0 := by
  obtain ⟨m, e, hr, _⟩ := read_num (of_decide_eq_true h)
  unfold Ieee.Format.sub
  rw [hr]
  have h1 : Ieee.signed (sgn f) m (-1074 + (e : Int) - min (-1074 + (e : Int)) (-1074 + (e : Int))).toNat + Ieee.signed (!sgn f) m (-1074 + (e : Int) - min (-1074 + (e : Int)) (-1074 + (e : Int))).toNat = 0 := by
    rw [signed_eq, signed_eq]; cases sgn f <;> simp <;> omega
  simp only [Ieee.Datum.opposite, Ieee.Datum.sum, h1, Option.map_some]
  cases sgn f <;> rfl
theorem sub_inf {f : Nat} (h : rung f = 9218868437227405312) : Ieee.double.sub f f = none := by
  unfold Ieee.Format.sub
  rw [read_inf h]
  cases sgn f <;> rfl
theorem fin_or {f : Nat} (h : isnan f = false) : isfin f = true ∨ rung f = 9218868437227405312 := by
  unfold isnan at h; unfold isfin; simp at h ⊢; omega
theorem nan_fin {f : Nat} (h : isnan f = true) : isfin f = false := by
  unfold isnan at h; unfold isfin; simp at h ⊢; omega
theorem fin_nan {f : Nat} (h : isfin f = true) : isnan f = false := by
  unfold isfin at h; unfold isnan; simp at h ⊢; omega

/-- The sum of floats but NaN, added in turn; none: it is NaN. -/
def sumStep (s : Option Nat) (f : Nat) : Option Nat := if isnan f then s else match s with | none => none | some v => Ieee.double.add v f
def sumOf (l : List Nat) : Option Nat := l.foldl sumStep (some 0)
/-- A float that is this, where it is something, and NaN where it is nothing. -/
def Is (o : Option Nat) (v : Nat) : Prop := v < 18446744073709551616 ∧ (if isnan v then none else some v) = o
theorem Is.bits {o : Option Nat} {u v : Nat} (hu : Is o u) (hv : Is o v) : bitsOf u = bitsOf v := by
  have h := hu.2.trans hv.2.symm
  unfold bitsOf
  cases h1 : isnan u <;> cases h2 : isnan v <;> simp [h1, h2] at h ⊢
  exact h
theorem Is.some {v r : Nat} (h : Is (some r) v) : v = r ∧ isnan r = false := by
  have := h.2
  cases h1 : isnan v <;> simp [h1] at this
  subst this; exact ⟨rfl, h1⟩
theorem Is.none {v : Nat} (h : Is none v) : isnan v = true := by
  have := h.2
  cases h1 : isnan v <;> simp [h1] at this
  rfl
theorem Is.of {v : Nat} (h : v < 18446744073709551616) : Is (if isnan v then Option.none else Option.some v) v := ⟨h, rfl⟩
theorem Is.mk_some {r : Nat} (h : isnan r = false ∧ r < 18446744073709551616) : Is (Option.some r) r := ⟨h.2, by rw [h.1]; rfl⟩
theorem Is.mk_none {r : Nat} (h : isnan r = true ∧ r < 18446744073709551616) : Is Option.none r := ⟨h.2, by rw [h.1]; rfl⟩
theorem add_nan_l {x y : Nat} (h : isnan x = true) : Ieee.double.add x y = none := by
  unfold Ieee.Format.add
  obtain ⟨t, hr⟩ := read_nan h
  rw [hr]; rfl
theorem sumStep_nan {s : Option Nat} {f : Nat} (h : isnan f = true) : sumStep s f = s := by unfold sumStep; rw [if_pos h]
theorem sumStep_is {s : Option Nat} {f v : Nat} (hv : Is s v) (h : isnan f = false) : sumStep s f = Ieee.double.add v f := by
  unfold sumStep
  rw [h]
  cases s with
  | none => simp; exact (add_nan_l hv.none).symm
  | some r => simp; rw [hv.some.1]
theorem sumOf_take (l : List Nat) (k : Nat) (h : k < l.length) : sumOf (l.take (k + 1)) = sumStep (sumOf (l.take k)) l[k] := by
  unfold sumOf; rw [List.take_succ_eq_append_getElem h, List.foldl_append]; rfl

/-- The machine's NaN. -/
theorem cut_nan (x y t : Nat) : isnan (Question.cut (.nanBits .f64 x y) t) = true ∧ Question.cut (.nanBits .f64 x y) t < 18446744073709551616 := by
  have e : Question.cut (.nanBits .f64 x y) t = (t % 2) * 9223372036854775808 + 9218868437227405312 + 1 + (t / 2) % 4503599627370495 := rfl
  rw [e]
  have h2 : t % 2 = 0 ∨ t % 2 = 1 := by omega
  have h3 : (t / 2) % 4503599627370495 < 4503599627370495 := Nat.mod_lt _ (by decide)
  generalize (t / 2) % 4503599627370495 = c at h3
  unfold isnan rung
  simp only [decide_eq_true_eq]
  rcases h2 with h | h <;> rw [h] <;> omega
theorem run_float_nan {P : Program} (w : World) (op : BinOp) (t : TypeId) (x y : Nat) (hop : op = .add ∨ op = .sub ∨ op = .quo) (h : floatBits op .f64 x y = none) :
    ∃ r, (isnan r = true ∧ r < 18446744073709551616) ∧ (binOp op t (.float .f64 x) (.float .f64 y)).run P w = .ok (.float .f64 r) w.drew := by
  refine ⟨Question.cut (.nanBits .f64 x y) (w.tape w.drawn (.nanBits .f64 x y)), cut_nan x y _, ?_⟩
  unfold floatBits at h
  rcases hop with rfl | rfl | rfl <;> simp only at h <;> simp [binOp, Op.floatArith, h, Question.forced]

/-- Reckoned: a float that is what the operation gives, and the draw where it gives nothing. -/
theorem run_float (P : Program) (w : World) (op : BinOp) (t : TypeId) (x y : Nat) (hop : op = .add ∨ op = .sub ∨ op = .quo) :
    ∃ r n, Is (floatBits op .f64 x y) r ∧ (binOp op t (.float .f64 x) (.float .f64 y)).run P w = .ok (.float .f64 r) (w.drewN n) := by
  cases h : floatBits op .f64 x y with
  | none =>
    obtain ⟨r, h1, h2⟩ := run_float_nan (P := P) w op t x y hop h
    exact ⟨r, 1, .mk_none h1, h2⟩
  | some r =>
    refine ⟨r, 0, .mk_some ?_, run_float_arith w op t .f64 x y r h⟩
    have lt : r < 18446744073709551616 := by
      have := floatBits_wf h
      exact of_decide_eq_true this
    refine ⟨?_, lt⟩
    rcases hop with rfl | rfl | rfl
    · exact (add_ok h).1
    · have h' : Ieee.double.sub x y = some r := h
      unfold Ieee.Format.sub at h'
      obtain ⟨d, hd, rfl⟩ := Option.map_eq_some_iff.1 h'
      exact (write_ok (sum_ok hd)).1
    · exact (div_ok h).1

/-- An int as a float, and a rate. -/
def rateO (p q : Int) : Option Nat := Ieee.double.div (floatOfInt .f64 p) (floatOfInt .f64 q)
theorem ofInt_parts {n : Int} (h : n ≠ 0) : 0 < rung (floatOfInt .f64 n) ∧ sgn (floatOfInt .f64 n) = decide (n < 0) ∧ isnan (floatOfInt .f64 n) = false := by
  have e : floatOfInt .f64 n = Ieee.double.nearest (decide (n < 0)) n.natAbs 0 := rfl
  rw [e]
  unfold Ieee.Format.nearest
  rw [if_neg (by omega)]
  dsimp only
  generalize hk : Ieee.Toward.even.cut _ _ _ = k
  have hl : Ieee.double.leastPlace = -1074 := by decide
  have hb : Ieee.double.binade = 4503599627370496 := by decide
  have hi : Ieee.double.infRung = 9218868437227405312 := by decide
  have hf : Ieee.double.fractionBits = 52 := rfl
  rw [hl, hb, hi, hf]
  have h1 : 1022 ≤ (max (0 + (n.natAbs.log2 : Int) - (52 : Nat)) (-1074) - -1074).toNat := by omega
  have h2 : 4503599627370496 ≤ (max (0 + (n.natAbs.log2 : Int) - (52 : Nat)) (-1074) - -1074).toNat * 4503599627370496 + k := by omega
  generalize (max (0 + (n.natAbs.log2 : Int) - (52 : Nat)) (-1074) - -1074).toNat * 4503599627370496 + k = z at h2
  obtain ⟨p1, p2, p3⟩ := word_parts (decide (n < 0)) (r := min z 9218868437227405312) (Nat.min_le_right _ _)
  refine ⟨by rw [p2]; omega, p3, ?_⟩
  unfold isnan; rw [p2]; simp; omega
theorem rate_nothing (n : Int) : rateO n 0 = if n = 0 then none else some (if n < 0 then 18442240474082181120 else 9218868437227405312) := by
  by_cases h : n = 0
  · subst h; rw [if_pos rfl]; decide
  · rw [if_neg h]
    obtain ⟨h1, h2, h3⟩ := ofInt_parts h
    unfold rateO Ieee.Format.div
    have e0 : Ieee.double.read (floatOfInt .f64 0) = .number false 0 (-1074) := by decide
    rw [e0]
    rcases fin_or h3 with h4 | h4
    · obtain ⟨m, e, hr, hm⟩ := read_num (of_decide_eq_true h4)
      have hm0 : m ≠ 0 := by
        rintro rfl
        have := mono_pos h1
        omega
      rw [hr]
      simp only [Ieee.Datum.quotient, hm0, if_true, if_false, Option.map_some, h2]
      by_cases hn : n < 0 <;> simp [hn] <;> rfl
    · rw [read_inf h4]
      simp only [Ieee.Datum.quotient, Option.map_some, h2]
      by_cases hn : n < 0 <;> simp [hn] <;> rfl

end Go.Proofs.Ytcpacgflljmlaaa
