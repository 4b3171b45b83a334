/-
  Layer 7, plain mathematics: names, what is seen, paths and their pieces. Nothing here speaks of a program.
-/
import Derived.Test.YthecofkkacieaaaDoorM5
import Derived.Test.YthecofkkacieaaaDoorTx
import Derived.Lib.Join
namespace Go.Proofs.YthecofkkacieaaaDoor.M7
open Go.Lib M5
set_option linter.unusedVariables false

/-- The bytes of names. -/
def signs : List UInt8 := [65, 66, 67, 68, 69, 70, 71, 72, 73, 74, 75, 76, 77, 78, 79, 80, 81, 82, 83, 84, 85, 86, 87, 88, 89, 90, 97, 98, 99, 100, 101, 102, 103, 104, 105, 106, 107, 108, 109, 110, 111, 112, 113, 114, 115, 116, 117, 118, 119, 120, 121, 122, 48, 49, 50, 51, 52, 53, 54, 55, 56, 57, 46, 45, 95]
def sign (c : UInt8) : Bool := signs.contains c
theorem sign_all : ∀ n : Fin 256, signs.contains (UInt8.ofNat n.val) = decide ((48 ≤ n.val ∧ n.val ≤ 57) ∨ (65 ≤ n.val ∧ n.val ≤ 90) ∨ (97 ≤ n.val ∧ n.val ≤ 122) ∨ n.val = 46 ∨ n.val = 45 ∨ n.val = 95) := by decide +kernel
theorem sign_iff (c : UInt8) : sign c = true ↔ (48 ≤ c.toNat ∧ c.toNat ≤ 57) ∨ (65 ≤ c.toNat ∧ c.toNat ≤ 90) ∨ (97 ≤ c.toNat ∧ c.toNat ≤ 122) ∨ c.toNat = 46 ∨ c.toNat = 45 ∨ c.toNat = 95 := by
  have h := sign_all ⟨c.toNat, c.toNat_lt⟩
  have hc : UInt8.ofNat c.toNat = c := by simp
  simp only [hc] at h
  unfold sign
  rw [h, decide_eq_true_eq]
theorem sign_tilde : sign 126 = false := by decide +kernel
theorem sign_slash : sign 47 = false := by decide +kernel

def nameB (l : List UInt8) : Bool := decide (l ≠ [] ∧ l.length ≤ 32 ∧ l ≠ [46] ∧ l ≠ [46, 46]) && l.all sign
theorem nameB_iff {l : List UInt8} : nameB l = true ↔ (l ≠ [] ∧ l.length ≤ 32 ∧ l ≠ [46] ∧ l ≠ [46, 46]) ∧ ∀ c ∈ l, sign c = true := by
  simp [nameB]
theorem nameB_bad {l : List UInt8} {k : Nat} (hk : k < l.length) (h : sign l[k] = false) : nameB l = false := by
  cases hn : nameB l with
  | false => rfl
  | true =>
    have := (nameB_iff.1 hn).2 l[k] (List.getElem_mem hk)
    rw [h] at this; cases this
theorem nameB_good {l : List UInt8} (h1 : l ≠ []) (h2 : l.length ≤ 32) (h3 : l ≠ [46]) (h4 : l ≠ [46, 46]) (h : ∀ k (hk : k < l.length), sign l[k] = true) : nameB l = true := by
  refine nameB_iff.2 ⟨⟨h1, h2, h3, h4⟩, fun c hc => ?_⟩
  obtain ⟨k, hk, rfl⟩ := List.getElem_of_mem hc
  exact h k hk
theorem nameB_not {l : List UInt8} (h : l = [] ∨ 32 < l.length ∨ l = [46] ∨ l = [46, 46]) : nameB l = false := by
  cases hn : nameB l with
  | false => rfl
  | true =>
    obtain ⟨⟨h1, h2, h3, h4⟩, _⟩ := nameB_iff.1 hn
    rcases h with h | h | h | h
    · exact absurd h h1
    · omega
    · exact absurd h h3
    · exact absurd h h4
theorem name_no {l : List UInt8} (h : nameB l = true) {c : UInt8} (hc : sign c = false) : c ∉ l := fun hm => by
  have := (nameB_iff.1 h).2 c hm
  rw [hc] at this; cases this
theorem name_len {l : List UInt8} (h : nameB l = true) : l.length ≤ 32 := (nameB_iff.1 h).1.2.1

/-! ### Cut at the first of a byte -/
def cutB (x : UInt8) : List UInt8 → Option (List UInt8 × List UInt8)
  | [] => none
  | c :: r => if c == x then some ([], r) else (cutB x r).map fun p => (c :: p.1, p.2)
theorem cutB_index (x : UInt8) : ∀ (l : List UInt8), (cutB x l = none ∧ indexByte l x = -1) ∨ ∃ m : Nat, indexByte l x = (m : Int) ∧ m < l.length ∧ cutB x l = some (l.take m, l.drop (m + 1)) := by
  intro l
  induction l with
  | nil => exact .inl ⟨rfl, rfl⟩
  | cons c r ih =>
    by_cases hc : (c == x) = true
    · refine .inr ⟨0, ?_, by simp, ?_⟩
      · simp [indexByte, hc]
      · simp [cutB, hc]
    · have hc' : (c == x) = false := by simpa using hc
      rcases ih with ⟨h1, h2⟩ | ⟨m, h1, h2, h3⟩
      · refine .inl ⟨?_, ?_⟩
        · simp [cutB, hc', h1]
        · simp [indexByte, hc', h2]
      · refine .inr ⟨m + 1, ?_, by simpa using h2, ?_⟩
        · have : ¬ ((m : Int) == -1) = true := by simp
          simp only [indexByte, hc', h1, if_neg this]
          simp
        · simp [cutB, hc', h3]
theorem cutB_some {x : UInt8} : ∀ {l a b : List UInt8}, cutB x l = some (a, b) → l = a ++ x :: b ∧ x ∉ a := by
  intro l
  induction l with
  | nil => intro a b h; cases h
  | cons c r ih =>
    intro a b h
    simp only [cutB] at h
    split at h
    · rename_i hc
      have : c = x := by simpa using hc
      subst this
      injection h with h; injection h with h1 h2
      subst h1; subst h2; exact ⟨rfl, by simp⟩
    · rename_i hc
      obtain ⟨⟨p, q⟩, h1, h2⟩ := Option.map_eq_some_iff.1 h
      simp only [Prod.mk.injEq] at h2
      obtain ⟨rfl, rfl⟩ := h2
      obtain ⟨h3, h4⟩ := ih h1
      refine ⟨by rw [h3]; rfl, fun hm => ?_⟩
      rcases List.mem_cons.1 hm with rfl | hm
      · simp at hc
      · exact h4 hm
theorem cutB_app {x : UInt8} : ∀ (a b : List UInt8), x ∉ a → cutB x (a ++ x :: b) = some (a, b) := by
  intro a
  induction a with
  | nil => intro b _; simp [cutB]
  | cons c a ih =>
    intro b h
    have hne : (c == x) = false := by
      simp only [beq_eq_false_iff_ne, ne_eq]
      rintro rfl
      exact h (by simp)
    simp [cutB, hne, ih b (fun hm => h (by simp [hm]))]
theorem cutB_not {x : UInt8} : ∀ (a : List UInt8), x ∉ a → cutB x a = none := by
  intro a
  induction a with
  | nil => intro _; rfl
  | cons c a ih =>
    intro h
    have hne : (c == x) = false := by
      simp only [beq_eq_false_iff_ne, ne_eq]
      rintro rfl
      exact h (by simp)
    simp [cutB, hne, ih (fun hm => h (by simp [hm]))]
theorem cutB_none {x : UInt8} : ∀ {a : List UInt8}, cutB x a = none → x ∉ a := by
  intro a h hm
  obtain ⟨p, q, rfl⟩ := List.append_of_mem hm
  rcases cutB_index x (p ++ x :: q) with ⟨_, h2⟩ | ⟨m, _, _, h3⟩
  · have : ∀ p : List UInt8, indexByte (p ++ x :: q) x ≠ -1 := by
      intro p
      induction p with
      | nil => simp [indexByte]
      | cons c p ih =>
        simp only [List.cons_append, indexByte]
        split
        · simp
        · have hge := indexByte_ge (p ++ x :: q) x
          rw [if_neg (by simpa using ih)]
          omega
    exact this p h2
  · rw [h] at h3; cases h3

/-! ### What is seen -/
def seenB (l : List UInt8) : Bool :=
  match cutB 126 l with
  | none => nameB l
  | some (a, b) => nameB a && (parseR b).isSome
theorem seen_name {l : List UInt8} (h : cutB 126 l = none) : seenB l = nameB l := by unfold seenB; rw [h]
theorem seen_cut {l a b : List UInt8} (h : cutB 126 l = some (a, b)) : seenB l = (nameB a && (parseR b).isSome) := by unfold seenB; rw [h]
theorem textR_len (t r i : Int) : (textR t r i).length ≤ 23 := by
  by_cases h : rightId t r i = true
  · have hb := rightId_iff.1 h
    rw [textR_right h]
    exact idText_len (by omega) (by omega) (by omega)
  · rw [textR_wrong (by simpa using h)]; simp
theorem dig_no {c : UInt8} (h : dig c = true) : c ≠ 47 ∧ c ≠ 126 := by
  have := dig_iff.1 h
  constructor
  · rintro rfl; revert this; decide
  · rintro rfl; revert this; decide
theorem textR_no (t r i : Int) : (47 : UInt8) ∉ textR t r i := by
  by_cases h : rightId t r i = true
  · rw [textR_right h]
    unfold idText
    simp only [List.mem_append, List.mem_cons, not_or]
    exact ⟨fun hm => (dig_no (dec_dig _ _ hm)).1 rfl, by decide, fun hm => (dig_no (dec_dig _ _ hm)).1 rfl, by decide, fun hm => (dig_no (dec_dig _ _ hm)).1 rfl⟩
  · rw [textR_wrong (by simpa using h)]; simp
theorem seen_parts {l : List UInt8} (h : seenB l = true) : l.length ≤ 60 ∧ (47 : UInt8) ∉ l ∧ l ≠ [] := by
  cases hc : cutB 126 l with
  | none =>
    rw [seen_name hc] at h
    exact ⟨by have := name_len h; omega, name_no h sign_slash, (nameB_iff.1 h).1.1⟩
  | some p =>
    obtain ⟨a, b⟩ := p
    rw [seen_cut hc, Bool.and_eq_true] at h
    obtain ⟨h1, h2⟩ := h
    obtain ⟨⟨t, r, i⟩, hp⟩ := Option.isSome_iff_exists.1 h2
    obtain ⟨_, rfl⟩ := parseR_some.1 hp
    obtain ⟨rfl, _⟩ := cutB_some hc
    have hl := name_len h1
    have hl2 := textR_len t r i
    refine ⟨by simp only [List.length_append, List.length_cons]; omega, ?_, by simp⟩
    simp only [List.mem_append, List.mem_cons, not_or]
    exact ⟨name_no h1 sign_slash, by decide, textR_no t r i⟩
theorem clash_seen {s : List UInt8} {t r i : Int} (hs : nameB s = true) (hx : rightId t r i = true) : seenB (s ++ 126 :: textR t r i) = true ∧ nameB (s ++ 126 :: textR t r i) = false := by
  constructor
  · rw [seen_cut (cutB_app s (textR t r i) (name_no hs sign_tilde)), hs, parseR_text hx]; rfl
  · cases hn : nameB (s ++ 126 :: textR t r i) with
    | false => rfl
    | true => exact absurd (by simp) (name_no hn sign_tilde)
theorem clash_eq {s u : List UInt8} {t r i t' r' i' : Int} (hs : nameB s = true) (hu : nameB u = true) (hx : rightId t r i = true) (hy : rightId t' r' i' = true) :
    s ++ 126 :: textR t r i = u ++ 126 :: textR t' r' i' ↔ s = u ∧ t = t' ∧ r = r' ∧ i = i' := by
  constructor
  · intro h
    have h1 := cutB_app s (textR t r i) (name_no hs sign_tilde)
    have h2 := cutB_app u (textR t' r' i') (name_no hu sign_tilde)
    rw [h] at h1
    rw [h1] at h2
    injection h2 with h2; injection h2 with h3 h4
    have h5 := parseR_text hx
    rw [h4, parseR_text hy] at h5
    injection h5 with h5; injection h5 with h6 h7; injection h7 with h7 h8
    exact ⟨h3, h6.symm, h7.symm, h8.symm⟩
  · rintro ⟨rfl, rfl, rfl, rfl⟩; rfl

/-! ### Clash -/
def clashR (s : List UInt8) (t r i : Int) : List UInt8 × Int :=
  if nameB s = false then ([], 70) else if rightId t r i = false then ([], 1) else (s ++ 126 :: textR t r i, 0)
theorem clashR_name {s : List UInt8} {t r i : Int} (h : nameB s = false) : clashR s t r i = ([], 70) := by unfold clashR; rw [if_pos h]
theorem clashR_id {s : List UInt8} {t r i : Int} (h : nameB s = true) (h2 : rightId t r i = false) : clashR s t r i = ([], 1) := by unfold clashR; rw [if_neg (by simp [h]), if_pos h2]
theorem clashR_ok {s : List UInt8} {t r i : Int} (h : nameB s = true) (h2 : rightId t r i = true) : clashR s t r i = (s ++ 126 :: textR t r i, 0) := by unfold clashR; rw [if_neg (by simp [h]), if_neg (by simp [h2])]
theorem textR_nil {t r i : Int} : textR t r i = [] ↔ rightId t r i = false := by
  constructor
  · intro h
    cases hr : rightId t r i with
    | false => rfl
    | true => rw [textR_right hr] at h; exact absurd h (idText_ne _ _ _)
  · exact textR_wrong

/-! ### Pieces -/
def piecesN : Nat → List UInt8 → List (List UInt8)
  | 0, l => [l]
  | n + 1, l => match cutB 47 l with | none => [l] | some (a, b) => a :: piecesN n b
def pieces (l : List UInt8) : List (List UInt8) := piecesN l.length l
theorem piecesN_more : ∀ (j k : Nat) (l : List UInt8), l.length ≤ j → l.length ≤ k → piecesN j l = piecesN k l := by
  intro j
  induction j with
  | zero =>
    intro k l hj hk
    have : l = [] := List.length_eq_zero_iff.1 (by omega)
    subst this
    cases k <;> rfl
  | succ j ih =>
    intro k l hj hk
    cases hc : cutB 47 l with
    | none => cases k <;> simp [piecesN, hc]
    | some p =>
      obtain ⟨a, b⟩ := p
      have hl := congrArg List.length (cutB_some hc).1
      simp only [List.length_append, List.length_cons] at hl
      cases k with
      | zero => omega
      | succ k =>
        simp only [piecesN, hc]
        rw [ih k b (by omega) (by omega)]
theorem pieces_none {l : List UInt8} (h : cutB 47 l = none) : pieces l = [l] := by
  unfold pieces
  cases l.length <;> simp [piecesN, h]
theorem pieces_some {l a b : List UInt8} (h : cutB 47 l = some (a, b)) : pieces l = a :: pieces b := by
  have hl := congrArg List.length (cutB_some h).1
  simp only [List.length_append, List.length_cons] at hl
  unfold pieces
  cases hn : l.length with
  | zero => omega
  | succ n =>
    simp only [piecesN, h]
    rw [piecesN_more n b.length b (by omega) (Nat.le_refl _)]
theorem pieces_ne (l : List UInt8) : pieces l ≠ [] := by
  cases h : cutB 47 l with
  | none => rw [pieces_none h]; simp
  | some p => obtain ⟨a, b⟩ := p; rw [pieces_some h]; simp
/-- '/' ahead of each. -/
def ahead (l : List (List UInt8)) : List UInt8 := l.flatMap fun x => 47 :: x
theorem ahead_nil : ahead [] = [] := rfl
theorem ahead_cons (a : List UInt8) (l : List (List UInt8)) : ahead (a :: l) = 47 :: (a ++ ahead l) := rfl
theorem ahead_append (a b : List (List UInt8)) : ahead (a ++ b) = ahead a ++ ahead b := by simp [ahead]
theorem pieces_ahead : ∀ (n : Nat) (l : List UInt8), l.length ≤ n → ahead (pieces l) = 47 :: l := by
  intro n
  induction n with
  | zero =>
    intro l h
    have : l = [] := List.length_eq_zero_iff.1 (by omega)
    subst this
    rfl
  | succ n ih =>
    intro l h
    cases hc : cutB 47 l with
    | none => rw [pieces_none hc, ahead_cons, ahead_nil, List.append_nil]
    | some p =>
      obtain ⟨a, b⟩ := p
      have hl := (cutB_some hc).1
      have hl2 := congrArg List.length hl
      simp only [List.length_append, List.length_cons] at hl2
      rw [pieces_some hc, ahead_cons, ih b (by omega), hl]
theorem pieces_of : ∀ (l : List (List UInt8)) (a : List UInt8), (∀ x ∈ a :: l, (47 : UInt8) ∉ x) → pieces (a ++ ahead l) = a :: l := by
  intro l
  induction l with
  | nil =>
    intro a h
    rw [ahead_nil, List.append_nil, pieces_none (cutB_not a (h a (by simp)))]
  | cons b l ih =>
    intro a h
    rw [ahead_cons, pieces_some (cutB_app a (b ++ ahead l) (h a (by simp))), ih b (fun x hx => h x (by simp only [List.mem_cons] at hx ⊢; exact .inr hx))]
def joinR (l : List (List UInt8)) : List UInt8 := if l = [] then [47] else ahead l
theorem joinR_nil : joinR [] = [47] := rfl
theorem joinR_cons (a : List UInt8) (l : List (List UInt8)) : joinR (a :: l) = ahead (a :: l) := by unfold joinR; rw [if_neg (by simp)]
theorem joinTail_ahead : ∀ (l : List (List UInt8)), joinTail [47] l = ahead l := by
  intro l; simp [joinTail, ahead, List.flatMap]
theorem join_joinR (l : List (List UInt8)) : 47 :: join l [47] = joinR l := by
  cases l with
  | nil => rfl
  | cons a l => rw [join_cons, joinTail_ahead, joinR_cons, ahead_cons]
/-- What Split answers. -/
def splitP (p : List UInt8) : List (List UInt8) × Int :=
  if p = [47] then ([], 0) else match p with
  | [] => ([], 71)
  | c :: r => if c = 47 then (if (pieces r).all seenB = false then ([], 70) else if 20 < (pieces r).length then ([], 2) else (pieces r, 0)) else ([], 71)
theorem splitP_one : splitP [47] = ([], 0) := rfl
theorem splitP_nil : splitP [] = ([], 71) := rfl
theorem splitP_not {c : UInt8} {r : List UInt8} (h : c ≠ 47) : splitP (c :: r) = ([], 71) := by
  unfold splitP
  rw [if_neg (by intro e; injection e with e1; exact h e1)]
  simp only [if_neg h]
theorem splitP_wrong {r : List UInt8} (h0 : r ≠ []) (h : (pieces r).all seenB = false) : splitP (47 :: r) = ([], 70) := by
  unfold splitP
  rw [if_neg (by simpa using h0)]
  simp [h]
theorem splitP_long {r : List UInt8} (h0 : r ≠ []) (h : (pieces r).all seenB = true) (h2 : 20 < (pieces r).length) : splitP (47 :: r) = ([], 2) := by
  unfold splitP
  rw [if_neg (by simpa using h0)]
  simp [h, h2]
theorem splitP_ok {r : List UInt8} (h0 : r ≠ []) (h : (pieces r).all seenB = true) (h2 : (pieces r).length ≤ 20) : splitP (47 :: r) = (pieces r, 0) := by
  unfold splitP
  rw [if_neg (by simpa using h0)]
  simp [h, Nat.not_lt.2 h2]
theorem splitP_err (p : List UInt8) : (splitP p).2 ≠ 0 → (splitP p).1 = [] := by
  intro h
  by_cases h1 : p = [47]
  · rw [h1]; rfl
  · cases p with
    | nil => rfl
    | cons c r =>
      by_cases hc : c = 47
      · subst hc
        have h0 : r ≠ [] := fun e => h1 (by rw [e])
        cases ha : (pieces r).all seenB with
        | false => rw [splitP_wrong h0 ha]
        | true =>
          by_cases h2 : 20 < (pieces r).length
          · rw [splitP_long h0 ha h2]
          · rw [splitP_ok h0 ha (by omega)] at h; exact absurd rfl h
      · rw [splitP_not hc]
theorem splitP_join {p : List UInt8} (h : (splitP p).2 = 0) : joinR (splitP p).1 = p := by
  by_cases h1 : p = [47]
  · rw [h1]; rfl
  · cases p with
    | nil => exact absurd h (by decide)
    | cons c r =>
      by_cases hc : c = 47
      · subst hc
        have h0 : r ≠ [] := fun e => h1 (by rw [e])
        cases ha : (pieces r).all seenB with
        | false => rw [splitP_wrong h0 ha] at h; exact absurd h (by decide)
        | true =>
          by_cases h2 : 20 < (pieces r).length
          · rw [splitP_long h0 ha h2] at h; exact absurd h (by decide)
          · rw [splitP_ok h0 ha (by omega)]
            show joinR (pieces r) = 47 :: r
            rw [← pieces_ahead r.length r (Nat.le_refl _)]
            cases hp : pieces r with
            | nil => exact absurd hp (pieces_ne r)
            | cons a l => rw [joinR_cons]
      · rw [splitP_not hc] at h; exact absurd h (by decide)
theorem join_splitP {l : List (List UInt8)} (h : ∀ x ∈ l, seenB x = true) : splitP (joinR l) = if 20 < l.length then ([], 2) else (l, 0) := by
  cases l with
  | nil => rfl
  | cons a l =>
    have hne := (seen_parts (h a (by simp))).2.2
    have hp := pieces_of l a (fun x hx => (seen_parts (h x hx)).2.1)
    have h0 : a ++ ahead l ≠ [] := by simp [hne]
    have ha : (pieces (a ++ ahead l)).all seenB = true := by rw [hp]; exact List.all_eq_true.2 h
    rw [joinR_cons, ahead_cons]
    by_cases h2 : 20 < (a :: l).length
    · rw [if_pos h2, splitP_long h0 ha (by rw [hp]; exact h2)]
    · rw [if_neg h2, splitP_ok h0 ha (by rw [hp]; omega), hp]
theorem ahead_len : ∀ (l : List (List UInt8)) (n : Nat), (∀ x ∈ l, x.length ≤ n) → (ahead l).length ≤ (n + 1) * l.length := by
  intro l n
  induction l with
  | nil => intro _; simp [ahead]
  | cons a l ih =>
    intro h
    have h1 := h a (by simp)
    have h2 := ih (fun x hx => h x (by simp [hx]))
    rw [ahead_cons]
    simp only [List.length_append, List.length_cons, Nat.mul_succ]
    omega
theorem pieces_len (l : List UInt8) : (pieces l).length ≤ l.length + 1 := by
  have h : ∀ (L : List (List UInt8)), L.length ≤ (ahead L).length := by
    intro L
    induction L with
    | nil => simp
    | cons a L ih => rw [ahead_cons]; simp only [List.length_append, List.length_cons]; omega
  have := h (pieces l)
  rw [pieces_ahead l.length l (Nat.le_refl _)] at this
  simpa using this

end Go.Proofs.YthecofkkacieaaaDoor.M7
