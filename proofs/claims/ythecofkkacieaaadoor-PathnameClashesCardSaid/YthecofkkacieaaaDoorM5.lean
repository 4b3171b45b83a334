/-
  Layer 5, plain mathematics: decimal texts, ids, pieces between points. Nothing here speaks of a program.
-/
import Derived.Lib.ItoaNum
import Derived.Lib.AtoiAll
import Derived.Lib.Bytealg
namespace Go.Proofs.YthecofkkacieaaaDoor.M5
open Go.Lib
set_option linter.unusedVariables false

/-- A byte that is a digit. -/
def dig (c : UInt8) : Bool := decide (48 ≤ c.toNat ∧ c.toNat ≤ 57)
theorem dig_iff {c : UInt8} : dig c = true ↔ 48 ≤ c.toNat ∧ c.toNat ≤ 57 := by simp [dig]
def val (l : List UInt8) : Nat := l.foldl (fun a c => a * 10 + (c.toNat - 48)) 0
theorem val_snoc (l : List UInt8) (c : UInt8) : val (l ++ [c]) = val l * 10 + (c.toNat - 48) := by simp [val]

theorem byte48 {k : Nat} (h : k < 10) : (UInt8.ofNat (48 + k)).toNat = 48 + k := by
  rw [UInt8.toNat_ofNat']; omega
theorem decDigits_big {u : Nat} (h : ¬ u < 10) : decDigits u = decDigits (u / 10) ++ [UInt8.ofNat (48 + u % 10)] := by rw [decDigits, dif_neg h]

theorem dec_dig (u : Nat) : ∀ c ∈ decDigits u, dig c = true := by
  induction u using Nat.strongRecOn with
  | _ u ih =>
    by_cases h : u < 10
    · rw [decDigits_one h]
      intro c hc
      obtain rfl := List.mem_singleton.1 hc
      rw [dig_iff, byte48 h]; omega
    · rw [decDigits_big h]
      intro c hc
      rcases List.mem_append.1 hc with hc | hc
      · exact ih (u / 10) (by omega) c hc
      · obtain rfl := List.mem_singleton.1 hc
        rw [dig_iff, byte48 (Nat.mod_lt _ (by omega))]; omega
theorem dec_val (u : Nat) : val (decDigits u) = u := by
  induction u using Nat.strongRecOn with
  | _ u ih =>
    by_cases h : u < 10
    · rw [decDigits_one h]
      simp only [val, List.foldl_cons, List.foldl_nil]
      rw [byte48 h]; omega
    · rw [decDigits_big h, val_snoc, ih (u / 10) (by omega), byte48 (Nat.mod_lt _ (by omega))]
      omega
theorem dec_ne (u : Nat) : decDigits u ≠ [] := by
  intro h
  have := decDigits_length u
  have := nDigits_pos u
  rw [h] at *; simp at *; omega
/-- No nought stands ahead of others. -/
theorem dec_head (u : Nat) (hu : u ≠ 0) : (decDigits u).head?.map (·.toNat) ≠ some 48 := by
  induction u using Nat.strongRecOn with
  | _ u ih =>
    by_cases h : u < 10
    · rw [decDigits_one h]
      simp only [List.head?_cons, Option.map_some, ne_eq, Option.some.injEq]
      rw [byte48 h]; omega
    · rw [decDigits_big h]
      have hne := dec_ne (u / 10)
      have := ih (u / 10) (by omega) (by omega)
      cases hd : decDigits (u / 10) with
      | nil => exact absurd hd hne
      | cons a b => rw [hd] at this; simpa using this
/-- The numeral of what digits spell, if no nought stands ahead of others. -/
theorem dec_of_val : ∀ (n : Nat) (l : List UInt8), l.length = n → l ≠ [] → (∀ c ∈ l, dig c = true) → (l.head?.map (·.toNat) = some 48 → l.length = 1) → decDigits (val l) = l := by
  intro n
  induction n with
  | zero => intro l hl hne; exact absurd (List.eq_nil_of_length_eq_zero hl) hne
  | succ n ih =>
    intro l hl hne hd hh
    obtain ⟨d, c, rfl⟩ : ∃ d c, l = d ++ [c] := ⟨l.dropLast, l.getLast hne, (List.dropLast_concat_getLast hne).symm⟩
    have hc := dig_iff.1 (hd c (by simp))
    rw [val_snoc]
    have hcb : UInt8.ofNat (48 + (c.toNat - 48)) = c := by
      apply UInt8.toNat_inj.1
      rw [byte48 (by omega)]; omega
    by_cases hd0 : d = []
    · subst hd0
      have : val [] = 0 := rfl
      rw [this, decDigits_one (by omega), show 48 + (0 * 10 + (c.toNat - 48)) = 48 + (c.toNat - 48) by omega, hcb]
      rfl
    · have hl' : d.length = n := by simp at hl; omega
      have hdig : ∀ c ∈ d, dig c = true := fun c hc => hd c (by simp [hc])
      obtain ⟨a, b, rfl⟩ := List.exists_cons_of_ne_nil hd0
      have ha : a.toNat ≠ 48 := by
        intro h
        have := hh (by simp [h])
        simp at this
      have h1 := ih (a :: b) hl' (by simp) hdig (by simp [ha])
      have hpos : 1 ≤ val (a :: b) := by
        rcases Nat.eq_zero_or_pos (val (a :: b)) with h0 | h0
        · rw [h0, decDigits_one (by omega)] at h1
          injection h1 with h2 h3
          exfalso; apply ha; rw [← h2, byte48 (by omega)]
        · exact h0
      rw [decDigits_big (by omega), show (val (a :: b) * 10 + (c.toNat - 48)) / 10 = val (a :: b) by omega, show (val (a :: b) * 10 + (c.toNat - 48)) % 10 = c.toNat - 48 by omega, h1, hcb]
theorem dec_inj {a b : Nat} (h : decDigits a = decDigits b) : a = b := by rw [← dec_val a, h, dec_val]
theorem dec_len {u k : Nat} (hk : 1 ≤ k) (h : u < 10 ^ k) : (decDigits u).length ≤ k := by
  induction k generalizing u with
  | zero => omega
  | succ k ih =>
    by_cases h10 : u < 10
    · rw [decDigits_one h10]; simp
    · rw [decDigits_big h10]
      rcases Nat.eq_zero_or_pos k with rfl | hk0
      · simp at h; omega
      · have := ih (u := u / 10) hk0 (by rw [Nat.pow_succ] at h; omega)
        simp; omega

/-! ### Atoi of a numeral -/
theorem parseUint_dig : ∀ (l : List UInt8) (acc : Nat), (∀ c ∈ l, dig c = true) → l.foldl (fun a c => a * 10 + (c.toNat - 48)) acc < 1000000000000000000 → parseUint10 acc l = .ok (l.foldl (fun a c => a * 10 + (c.toNat - 48)) acc) := by
  intro l
  induction l with
  | nil => intro acc _ _; rfl
  | cons c r ih =>
    intro acc hd hlt
    have hmono : ∀ (r : List UInt8) (a : Nat), a ≤ r.foldl (fun a c => a * 10 + (c.toNat - 48)) a := by
      intro r
      induction r with
      | nil => intro a; exact Nat.le_refl _
      | cons c r ih => intro a; exact Nat.le_trans (show a ≤ a * 10 + (c.toNat - 48) by omega) (ih _)
    have h1 := hmono r (acc * 10 + (c.toNat - 48))
    simp only [List.foldl_cons] at hlt ⊢
    simp only [parseUint10]
    rw [if_pos (dig_iff.1 (hd c (by simp))), if_neg (by omega), if_neg (by omega)]
    exact ih _ (fun c hc => hd c (by simp [hc])) hlt
theorem atoi_dec (u : Nat) (hu : u < 1000000000000000000) : atoiAll (decDigits u) = .ok (u : Int) := by
  have hd := dec_dig u
  have hv := dec_val u
  have hne := dec_ne u
  cases hl : decDigits u with
  | nil => exact absurd hl hne
  | cons c r =>
    rw [hl] at hd hv
    have hc := dig_iff.1 (hd c (by simp))
    have hp := parseUint_dig (c :: r) 0 hd (by show val (c :: r) < _; rw [hv]; exact hu)
    have hp2 : parseMag (c :: r) = .ok u := by
      unfold parseMag
      rw [if_neg (by simp), hp]
      congr 1
    unfold atoiAll
    simp only
    rw [if_neg (by omega), hp2]
    simp only
    rw [if_neg (by omega), if_neg (by omega), if_neg (by omega)]

/-! ### Ids and their texts -/
def right (t r : Int) : Bool := decide (1 ≤ t ∧ t ≤ 1099511627776 ∧ 1 ≤ r ∧ r ≤ 16)
def rightId (t r i : Int) : Bool := decide (1 ≤ t ∧ t ≤ 1099511627776 ∧ 1 ≤ r ∧ r ≤ 16 ∧ 0 ≤ i ∧ i ≤ 400000)
theorem right_iff {t r : Int} : right t r = true ↔ 1 ≤ t ∧ t ≤ 1099511627776 ∧ 1 ≤ r ∧ r ≤ 16 := by simp [right]
theorem rightId_iff {t r i : Int} : rightId t r i = true ↔ 1 ≤ t ∧ t ≤ 1099511627776 ∧ 1 ≤ r ∧ r ≤ 16 ∧ 0 ≤ i ∧ i ≤ 400000 := by simp [rightId]
def idText (t r i : Nat) : List UInt8 := decDigits t ++ 46 :: (decDigits r ++ 46 :: decDigits i)
def textR (t r i : Int) : List UInt8 := if rightId t r i = true then idText t.toNat r.toNat i.toNat else []
theorem textR_right {t r i : Int} (h : rightId t r i = true) : textR t r i = idText t.toNat r.toNat i.toNat := by unfold textR; rw [if_pos h]
theorem textR_wrong {t r i : Int} (h : rightId t r i = false) : textR t r i = [] := by unfold textR; rw [if_neg (by simp [h])]
theorem idText_ne (t r i : Nat) : idText t r i ≠ [] := by
  unfold idText
  cases h : decDigits t with
  | nil => exact absurd h (dec_ne t)
  | cons a b => simp
theorem idText_len {t r i : Nat} (ht : t ≤ 1099511627776) (hr : r ≤ 16) (hi : i ≤ 400000) : (idText t r i).length ≤ 23 := by
  have h1 := dec_len (u := t) (k := 13) (by omega) (by omega)
  have h2 := dec_len (u := r) (k := 2) (by omega) (by omega)
  have h3 := dec_len (u := i) (k := 6) (by omega) (by omega)
  unfold idText
  simp only [List.length_append, List.length_cons]; omega

/-! ### Pieces between points -/
/-- What stands ahead of the first point, and behind it. -/
def cut : List UInt8 → Option (List UInt8 × List UInt8)
  | [] => none
  | c :: r => if c == 46 then some ([], r) else (cut r).map fun p => (c :: p.1, p.2)
theorem cut_index : ∀ (l : List UInt8), (cut l = none ∧ indexByte l 46 = -1) ∨ ∃ m : Nat, indexByte l 46 = (m : Int) ∧ m < l.length ∧ cut l = some (l.take m, l.drop (m + 1)) := by
  intro l
  induction l with
  | nil => exact .inl ⟨rfl, rfl⟩
  | cons c r ih =>
    by_cases hc : (c == 46) = true
    · refine .inr ⟨0, ?_, by simp, ?_⟩
      · simp [indexByte, hc]
      · simp [cut, hc]
    · have hc' : (c == 46) = false := by simpa using hc
      rcases ih with ⟨h1, h2⟩ | ⟨m, h1, h2, h3⟩
      · refine .inl ⟨?_, ?_⟩
        · simp [cut, hc', h1]
        · simp [indexByte, hc', h2]
      · refine .inr ⟨m + 1, ?_, by simpa using h2, ?_⟩
        · have : ¬ ((m : Int) == -1) = true := by simp
          simp only [indexByte, hc', h1, if_neg this]
          simp
        · simp [cut, hc', h3]
theorem cut_some : ∀ {l a b : List UInt8}, cut l = some (a, b) → l = a ++ 46 :: b := by
  intro l
  induction l with
  | nil => intro a b h; cases h
  | cons c r ih =>
    intro a b h
    simp only [cut] at h
    split at h
    · rename_i hc
      have : c = 46 := by simpa using hc
      subst this
      injection h with h; injection h with h1 h2
      subst h1; subst h2; rfl
    · obtain ⟨⟨p, q⟩, h1, h2⟩ := Option.map_eq_some_iff.1 h
      simp only [Prod.mk.injEq] at h2
      obtain ⟨rfl, rfl⟩ := h2
      rw [ih h1]; rfl
theorem cut_dig : ∀ (d r : List UInt8), (∀ c ∈ d, dig c = true) → cut (d ++ 46 :: r) = some (d, r) := by
  intro d
  induction d with
  | nil => intro r _; simp [cut]
  | cons c d ih =>
    intro r h
    have hc := dig_iff.1 (h c (by simp))
    have hne : (c == 46) = false := by
      simp only [beq_eq_false_iff_ne, ne_eq]
      rintro rfl
      simp at hc
    simp [cut, hne, ih r (fun c hc => h c (by simp [hc]))]
theorem cut_none : ∀ (d : List UInt8), (∀ c ∈ d, dig c = true) → cut d = none := by
  intro d
  induction d with
  | nil => intro _; rfl
  | cons c d ih =>
    intro h
    have hc := dig_iff.1 (h c (by simp))
    have hne : (c == 46) = false := by
      simp only [beq_eq_false_iff_ne, ne_eq]
      rintro rfl
      simp at hc
    simp [cut, hne, ih (fun c hc => h c (by simp [hc]))]
/-- At most k + 1 pieces. -/
def split : Nat → List UInt8 → List (List UInt8)
  | 0, l => [l]
  | k + 1, l => match cut l with | none => [l] | some (a, b) => a :: split k b
theorem split_none {k : Nat} {l : List UInt8} (h : cut l = none) : split k l = [l] := by cases k <;> simp [split, h]
theorem split_some {k : Nat} {l a b : List UInt8} (h : cut l = some (a, b)) : split (k + 1) l = a :: split k b := by simp [split, h]
theorem split_len : ∀ (k : Nat) (l : List UInt8), 1 ≤ (split k l).length ∧ (split k l).length ≤ k + 1 := by
  intro k
  induction k with
  | zero => intro l; simp [split]
  | succ k ih =>
    intro l
    cases h : cut l with
    | none => rw [split_none h]; simp
    | some p => obtain ⟨a, b⟩ := p; rw [split_some h]; have := ih b; simp; omega
/-- More cuts than bytes make no difference. -/
theorem split_more : ∀ (j k : Nat) (l : List UInt8), l.length ≤ j → l.length ≤ k → split j l = split k l := by
  intro j
  induction j with
  | zero =>
    intro k l h _
    obtain rfl := List.eq_nil_of_length_eq_zero (Nat.le_zero.1 h)
    rw [split_none rfl, split_none rfl]
  | succ j ih =>
    intro k l h1 h2
    cases h : cut l with
    | none => rw [split_none h, split_none h]
    | some p =>
      obtain ⟨a, b⟩ := p
      have hl := congrArg List.length (cut_some h)
      simp only [List.length_append, List.length_cons] at hl
      cases k with
      | zero => omega
      | succ k => rw [split_some h, split_some h, ih k b (by omega) (by omega)]
theorem split_id (t r i : Nat) : split 3 (idText t r i) = [decDigits t, decDigits r, decDigits i] := by
  unfold idText
  rw [split_some (cut_dig _ _ (dec_dig t)), split_some (cut_dig _ _ (dec_dig r)), split_none (cut_none _ (dec_dig i))]
theorem split_nil : split 3 [] = [[]] := rfl

/-! ### The document's reading -/
/-- Digits at a text's head, 16 at most. -/
def head16 (l : List UInt8) : List UInt8 := (l.take 16).takeWhile dig
def numR (l : List UInt8) : Int × List UInt8 :=
  if (head16 l).length = 0 ∨ 15 < (head16 l).length ∨ (l.head? = some 48 ∧ 1 < (head16 l).length) then (-1, []) else ((val (head16 l) : Int), l.drop (head16 l).length)
theorem tw_pre (l : List UInt8) : ∀ (n : Nat), ∃ r, l = (l.take n).takeWhile dig ++ r := by
  induction l with
  | nil => intro n; exact ⟨[], by simp⟩
  | cons c l ih =>
    intro n
    cases n with
    | zero => exact ⟨c :: l, by simp⟩
    | succ n =>
      obtain ⟨r, hr⟩ := ih n
      by_cases hc : dig c = true
      · refine ⟨r, ?_⟩
        rw [List.take_succ_cons, List.takeWhile_cons, if_pos hc, List.cons_append, ← hr]
      · refine ⟨c :: l, ?_⟩
        rw [List.take_succ_cons, List.takeWhile_cons, if_neg hc]; rfl
theorem head16_pre (l : List UInt8) : l = head16 l ++ l.drop (head16 l).length := by
  obtain ⟨r, hr⟩ := tw_pre l 16
  have h2 : l = head16 l ++ r := hr
  have : l.drop (head16 l).length = r := by
    have := congrArg (List.drop (head16 l).length) h2
    rwa [List.drop_left] at this
  rw [this]; exact h2
theorem head16_dig (l : List UInt8) : ∀ c ∈ head16 l, dig c = true := fun c hc => by
  have := List.all_takeWhile (p := dig) (l := l.take 16)
  exact List.all_eq_true.1 this c hc
theorem head16_le (l : List UInt8) : (head16 l).length ≤ 16 := by
  unfold head16
  exact Nat.le_trans (List.takeWhile_prefix dig).length_le (by simp [List.length_take]; omega)
theorem head16_dec {d r : List UInt8} (hd : ∀ c ∈ d, dig c = true) (hl : d.length ≤ 15) (hr : r.head?.map dig ≠ some true) : head16 (d ++ r) = d := by
  unfold head16
  have h1 : (d ++ r).take 16 = d ++ r.take (16 - d.length) := by
    rw [List.take_append, List.take_of_length_le (by omega)]
  rw [h1, List.takeWhile_append_of_pos hd]
  suffices h : (r.take (16 - d.length)).takeWhile dig = [] by rw [h, List.append_nil]
  cases r with
  | nil => simp
  | cons x r =>
    have hx : ¬ dig x = true := by simpa using hr
    obtain ⟨k, hk⟩ : ∃ k, 16 - d.length = k + 1 := ⟨15 - d.length, by omega⟩
    rw [hk, List.take_succ_cons, List.takeWhile_cons, if_neg hx]
theorem numR_dec {u : Nat} (hu : u < 1000000000000000) {r : List UInt8} (hr : r.head?.map dig ≠ some true) : numR (decDigits u ++ r) = ((u : Int), r) := by
  have hl := dec_len (u := u) (k := 15) (by omega) (by omega)
  have hh := head16_dec (dec_dig u) hl hr
  have hne := dec_ne u
  unfold numR
  rw [hh, if_neg, dec_val, List.drop_left]
  rintro (h | h | ⟨h1, h2⟩)
  · exact hne (List.eq_nil_of_length_eq_zero h)
  · omega
  · by_cases hu0 : u = 0
    · subst hu0; rw [decDigits_one (by omega)] at h2; simp at h2
    · refine dec_head u hu0 ?_
      cases hd : decDigits u with
      | nil => exact absurd hd hne
      | cons a b => rw [hd] at h1; simp at h1; subst h1; rfl
theorem numR_some {l r : List UInt8} {n : Int} (h : numR l = (n, r)) (hn : 0 ≤ n) : l = decDigits n.toNat ++ r := by
  unfold numR at h
  split at h
  · injection h with h1 h2; omega
  · rename_i hc
    injection h with h1 h2
    have hpre := head16_pre l
    have hv : decDigits (val (head16 l)) = head16 l := by
      refine dec_of_val _ _ rfl ?_ (head16_dig l) ?_
      · intro h0; apply hc; left; rw [h0]; rfl
      · intro h48
        rcases Nat.lt_or_ge 1 (head16 l).length with h2' | h2'
        · exfalso; apply hc; right; right
          refine ⟨?_, h2'⟩
          rw [hpre]
          cases hd : head16 l with
          | nil => rw [hd] at h48; simp at h48
          | cons a b =>
            rw [hd] at h48
            simp at h48
            have : a = 48 := UInt8.toNat_inj.1 (by simpa using h48)
            simp [this]
        · have : (head16 l).length ≠ 0 := fun h0 => hc (.inl h0)
          omega
    rw [← h1, Int.toNat_natCast, hv, ← h2]
    exact hpre
theorem numR_self {l : List UInt8} (h : 0 ≤ (numR l).1) : l = decDigits (numR l).1.toNat ++ (numR l).2 := numR_some (n := (numR l).1) (r := (numR l).2) (by cases numR l; rfl) h
theorem numR_ge (l : List UInt8) : -1 ≤ (numR l).1 := by
  unfold numR; split
  · simp
  · exact Int.le_trans (by decide) (Int.natCast_nonneg _)
theorem numR_neg {l r : List UInt8} {n : Int} (h : numR l = (n, r)) (hn : n < 0) : n = -1 ∧ r = [] := by
  unfold numR at h
  split at h
  · injection h with h1 h2; exact ⟨h1.symm, h2.symm⟩
  · injection h with h1 h2; omega

/-- What stands behind the point that is wanted ahead of all numbers but the first. -/
def sepR (k : Nat) (rest : List UInt8) : Option (List UInt8) :=
  if k = 0 then some rest else match rest with | [] => none | c :: r => if c = 46 then some r else none
/-- The first k numbers, with points between, and what stands behind them. -/
def numsR : Nat → List UInt8 → Option (List Int × List UInt8)
  | 0, l => some ([], l)
  | k + 1, l => match numsR k l with
    | none => none
    | some (ns, rest) => match sepR k rest with
      | none => none
      | some r => if (numR r).1 < 0 then none else some (ns ++ [(numR r).1], (numR r).2)
theorem numsR_none {l : List UInt8} {k : Nat} (h : numsR k l = none) : ∀ j, numsR (k + j) l = none := by
  intro j
  induction j with
  | zero => exact h
  | succ j ih => rw [← Nat.add_assoc]; simp only [numsR, ih]
theorem numsR_on {l rest r : List UInt8} {k : Nat} {ns : List Int} (h : numsR k l = some (ns, rest)) (hs : sepR k rest = some r) (hn : 0 ≤ (numR r).1) : numsR (k + 1) l = some (ns ++ [(numR r).1], (numR r).2) := by
  simp only [numsR, h, hs]
  rw [if_neg (by omega)]
theorem numsR_sep {l rest : List UInt8} {k : Nat} {ns : List Int} (h : numsR k l = some (ns, rest)) (hs : sepR k rest = none) : numsR (k + 1) l = none := by
  simp only [numsR, h, hs]
theorem numsR_bad {l rest r : List UInt8} {k : Nat} {ns : List Int} (h : numsR k l = some (ns, rest)) (hs : sepR k rest = some r) (hn : (numR r).1 < 0) : numsR (k + 1) l = none := by
  simp only [numsR, h, hs]
  rw [if_pos hn]
theorem numsR_back {l rest' : List UInt8} {k : Nat} {ns' : List Int} (h : numsR (k + 1) l = some (ns', rest')) : ∃ ns rest r, numsR k l = some (ns, rest) ∧ sepR k rest = some r ∧ 0 ≤ (numR r).1 ∧ ns' = ns ++ [(numR r).1] ∧ rest' = (numR r).2 := by
  simp only [numsR] at h
  split at h
  · cases h
  · rename_i ns rest h1
    split at h
    · cases h
    · rename_i r h2
      split at h
      · cases h
      · rename_i h3
        injection h with h; injection h with h4 h5
        exact ⟨ns, rest, r, h1, h2, by omega, h4.symm, h5.symm⟩
theorem sepR_succ {k : Nat} {rest r : List UInt8} (h : sepR (k + 1) rest = some r) : rest = 46 :: r := by
  unfold sepR at h
  rw [if_neg (by omega)] at h
  cases rest with
  | nil => cases h
  | cons c x =>
    simp only at h
    split at h
    · rename_i hc; injection h with h; rw [hc, h]
    · cases h
/-- The id that a text spells. -/
def parseR (l : List UInt8) : Option (Int × Int × Int) :=
  match numsR 3 l with
  | some ([t, r, i], []) => if rightId t r i = true then some (t, r, i) else none
  | _ => none
theorem numsR_three {l rest : List UInt8} {ns : List Int} (h : numsR 3 l = some (ns, rest)) : ∃ t r i : Int, ns = [t, r, i] ∧ 0 ≤ t ∧ 0 ≤ r ∧ 0 ≤ i ∧ l = decDigits t.toNat ++ 46 :: (decDigits r.toNat ++ 46 :: (decDigits i.toNat ++ rest)) := by
  obtain ⟨ns2, rest2, r2, h2, s2, g2, e2, q2⟩ := numsR_back h
  obtain ⟨ns1, rest1, r1, h1, s1, g1, e1, q1⟩ := numsR_back h2
  obtain ⟨ns0, rest0, r0, h0, s0, g0, e0, q0⟩ := numsR_back h1
  simp only [numsR, Option.some.injEq, Prod.mk.injEq] at h0
  obtain ⟨rfl, rfl⟩ := h0
  have s0' : l = r0 := by simpa [sepR] using s0
  subst s0'
  have d0 := numR_self g0
  have d1 := numR_self g1
  have d2 := numR_self g2
  have t1 := sepR_succ s1
  have t2 := sepR_succ s2
  refine ⟨(numR l).1, (numR r1).1, (numR r2).1, by rw [e2, e1, e0]; rfl, g0, g1, g2, ?_⟩
  rw [q2, ← d2, ← t2, q1, ← d1, ← t1, q0, ← d0]
theorem head46 (r : List UInt8) : (46 :: r).head?.map dig ≠ some true := by
  rw [List.head?_cons, Option.map_some]; decide
theorem numsR_id {t r i : Nat} (ht : t < 1000000000000000) (hr : r < 1000000000000000) (hi : i < 1000000000000000) : numsR 3 (idText t r i) = some ([(t : Int), (r : Int), (i : Int)], []) := by
  have e1 := numR_dec ht (r := 46 :: (decDigits r ++ 46 :: decDigits i)) (head46 _)
  have e2 := numR_dec hr (r := 46 :: decDigits i) (head46 _)
  have e3 := numR_dec hi (r := []) (by simp)
  rw [List.append_nil] at e3
  have f1 := numsR_on (k := 0) (l := idText t r i) (ns := []) (rest := idText t r i) (r := idText t r i) rfl rfl (by unfold idText; rw [e1]; exact Int.natCast_nonneg _)
  have g1 : numR (idText t r i) = ((t : Int), 46 :: (decDigits r ++ 46 :: decDigits i)) := e1
  rw [g1] at f1
  have f2 := numsR_on (k := 1) f1 rfl (by rw [e2]; exact Int.natCast_nonneg _)
  rw [e2] at f2
  have f3 := numsR_on (k := 2) f2 rfl (by rw [e3]; exact Int.natCast_nonneg _)
  rw [e3] at f3
  exact f3
theorem parseR_some {l : List UInt8} {t r i : Int} : parseR l = some (t, r, i) ↔ rightId t r i = true ∧ l = textR t r i := by
  constructor
  · intro h
    unfold parseR at h
    split at h
    · rename_i t' r' i' hs
      split at h
      · rename_i hr
        injection h with h; injection h with h1 h2; injection h2 with h2 h3
        subst h1; subst h2; subst h3
        refine ⟨hr, ?_⟩
        obtain ⟨a, b, c, hn, _, _, _, hl⟩ := numsR_three hs
        injection hn with q1 q2; injection q2 with q2 q3; injection q3 with q3 _
        subst q1; subst q2; subst q3
        rw [textR_right hr, hl, List.append_nil]; rfl
      · cases h
    · cases h
  · rintro ⟨hr, rfl⟩
    have hb := rightId_iff.1 hr
    rw [textR_right hr]
    unfold parseR
    rw [numsR_id (by omega) (by omega) (by omega)]
    simp only
    rw [show ((t.toNat : Nat) : Int) = t by omega, show ((r.toNat : Nat) : Int) = r by omega, show ((i.toNat : Nat) : Int) = i by omega, if_pos hr]
theorem parseR_none {l : List UInt8} (h : ∀ t r i, rightId t r i = true → l ≠ textR t r i) : parseR l = none := by
  cases hp : parseR l with
  | none => rfl
  | some x => obtain ⟨t, r, i⟩ := x; have := parseR_some.1 hp; exact absurd this.2 (h t r i this.1)
theorem parseR_text {t r i : Int} (h : rightId t r i = true) : parseR (textR t r i) = some (t, r, i) := parseR_some.2 ⟨h, rfl⟩
theorem parseR_nil : parseR [] = none := parseR_none fun t r i h e => by
  rw [textR_right h] at e; exact idText_ne _ _ _ e.symm
/-- The pieces and the numbers of a text that is an id's. -/
theorem split_text {l : List UInt8} {t r i : Int} (h : rightId t r i = true) (hl : l = textR t r i) : split 3 l = [decDigits t.toNat, decDigits r.toNat, decDigits i.toNat] ∧ atoiAll (decDigits t.toNat) = .ok t ∧ atoiAll (decDigits r.toNat) = .ok r ∧ atoiAll (decDigits i.toNat) = .ok i := by
  have hb := rightId_iff.1 h
  rw [hl, textR_right h, split_id]
  refine ⟨rfl, ?_, ?_, ?_⟩
  · have := atoi_dec t.toNat (by omega); rwa [show ((t.toNat : Nat) : Int) = t by omega] at this
  · have := atoi_dec r.toNat (by omega); rwa [show ((r.toNat : Nat) : Int) = r by omega] at this
  · have := atoi_dec i.toNat (by omega); rwa [show ((i.toNat : Nat) : Int) = i by omega] at this
/-- WHAT THE PROGRAM's Parse COMES TO: three pieces, each a number, whose text is the text. -/
theorem parse_pieces {l p0 p1 p2 : List UInt8} {a b c : Int} (hs : split 3 l = [p0, p1, p2]) (h0 : atoiAll p0 = .ok a) (h1 : atoiAll p1 = .ok b) (h2 : atoiAll p2 = .ok c) :
    (textR a b c = l → parseR l = some (a, b, c)) ∧ (textR a b c ≠ l → parseR l = none) := by
  constructor
  · intro he
    have hr : rightId a b c = true := by
      cases hr : rightId a b c with
      | true => rfl
      | false =>
        rw [textR_wrong hr] at he
        subst he
        rw [split_nil] at hs; cases hs
    exact parseR_some.2 ⟨hr, he.symm⟩
  · intro hne
    refine parseR_none fun t r i hr hl => hne ?_
    obtain ⟨e, e0, e1, e2⟩ := split_text hr hl
    rw [hs] at e
    injection e with q0 q; injection q with q1 q; injection q with q2 _
    subst q0; subst q1; subst q2
    rw [h0] at e0; rw [h1] at e1; rw [h2] at e2
    injection e0 with e0; injection e1 with e1; injection e2 with e2
    rw [hl, e0, e1, e2]
theorem parse_bad {l : List UInt8} (h : ∀ p0 p1 p2 a b c, split 3 l = [p0, p1, p2] → atoiAll p0 = .ok a → atoiAll p1 = .ok b → atoiAll p2 = .ok c → False) : parseR l = none :=
  parseR_none fun t r i hr hl => by
    obtain ⟨e, e0, e1, e2⟩ := split_text hr hl
    exact h _ _ _ _ _ _ e e0 e1 e2
theorem parse_few {l : List UInt8} (h : (split 3 l).length ≠ 3) : parseR l = none := parse_bad fun p0 p1 p2 a b c hs _ _ _ => h (by rw [hs]; rfl)

end Go.Proofs.YthecofkkacieaaaDoor.M5
