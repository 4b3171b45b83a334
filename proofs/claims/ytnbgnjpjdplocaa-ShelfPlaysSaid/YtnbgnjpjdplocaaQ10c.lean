/-
  Layer 10, walks: entries; how many are seen.
-/
import Derived.Test.YtnbgnjpjdplocaaQ10b
namespace Go.Proofs.Ytnbgnjpjdplocaa.Q10
open Go.RowKit Go.PlainAid
set_option linter.unusedVariables false
set_option linter.unusedSimpArgs false

/-- An id's three numbers. -/
abbrev Nm := Int × Int × Int
def nmC (x : Nm) : List Value := [.int .i64 x.1, .int .i64 x.2.1, .int .i64 x.2.2]
def nmV (x : Nm) : Value := .agg #[.int .i64 x.1, .int .i64 x.2.1, .int .i64 x.2.2]
/-- An entry: an id, and whether it is seen. -/
abbrev En := Nm × Bool
def enC (e : En) : List Value := [.int .i64 e.1.1, .int .i64 e.1.2.1, .int .i64 e.1.2.2, .bool e.2]
def ens (l : List En) : List Value := l.flatMap enC
def seenN (l : List En) : Nat := (l.filter (·.2)).length

theorem ens_nil : ens [] = [] := rfl
theorem ens_cons (e : En) (l : List En) : ens (e :: l) = enC e ++ ens l := rfl
theorem ens_append (a b : List En) : ens (a ++ b) = ens a ++ ens b := by simp [ens]
theorem ens_len (l : List En) : (ens l).length = l.length * 4 := by
  induction l with
  | nil => rfl
  | cons e l ih => rw [ens_cons, List.length_append, ih, List.length_cons]; simp [enC]; omega
theorem ens_get : ∀ {l : List En} {k : Nat} (h : k < l.length), (ens l)[k * 4]? = some (.int .i64 l[k].1.1) ∧ (ens l)[k * 4 + 1]? = some (.int .i64 l[k].1.2.1) ∧ (ens l)[k * 4 + 2]? = some (.int .i64 l[k].1.2.2) ∧ (ens l)[k * 4 + 3]? = some (.bool l[k].2) := by
  intro l
  induction l with
  | nil => intro k h; simp at h
  | cons e l ih =>
    intro k h
    cases k with
    | zero => exact ⟨rfl, rfl, rfl, rfl⟩
    | succ k =>
      have := ih (k := k) (by simpa using h)
      have e1 : ens (e :: l) = .int .i64 e.1.1 :: .int .i64 e.1.2.1 :: .int .i64 e.1.2.2 :: .bool e.2 :: ens l := rfl
      rw [e1, show (k + 1) * 4 = k * 4 + 4 by omega]
      exact this
theorem ens_take (l : List En) (k : Nat) : (ens l).take (k * 4) = ens (l.take k) := by
  induction l generalizing k with
  | nil => simp [ens]
  | cons e l ih =>
    cases k with
    | zero => simp [ens]
    | succ k =>
      rw [List.take_succ_cons, ens_cons, ens_cons, List.take_append, ← ih k]
      have : (enC e).length = 4 := rfl
      rw [List.take_of_length_le (by omega), this, show (k + 1) * 4 - 4 = k * 4 by omega]
theorem ens_drop (l : List En) (k : Nat) : (ens l).drop (k * 4) = ens (l.drop k) := by
  induction l generalizing k with
  | nil => simp [ens]
  | cons e l ih =>
    cases k with
    | zero => simp [ens]
    | succ k =>
      rw [List.drop_succ_cons, ens_cons, List.drop_append, ← ih k]
      have : (enC e).length = 4 := rfl
      rw [List.drop_of_length_le (by omega), this, show (k + 1) * 4 - 4 = k * 4 by omega, List.nil_append]
theorem ens_one (l : List En) : ∀ u ∈ ens l, u.oneCell' = true := by
  intro u hu
  obtain ⟨e, _, he⟩ := List.mem_flatMap.1 hu
  simp [enC] at he
  rcases he with rfl | rfl | rfl | rfl <;> rfl
theorem seenN_nil : seenN [] = 0 := rfl
theorem seenN_append (a b : List En) : seenN (a ++ b) = seenN a + seenN b := by simp [seenN]
theorem seenN_le (l : List En) : seenN l ≤ l.length := List.length_filter_le _ _
theorem seenN_snoc {l : List En} {k : Nat} (h : k < l.length) : seenN (l.take (k + 1)) = seenN (l.take k) + if l[k].2 then 1 else 0 := by
  rw [List.take_succ_eq_append_getElem h, seenN_append]
  cases hs : l[k].2 <;> simp [seenN, hs]

/-- The kth entry's cells. -/
theorem en_cells {w : World} {A : Option Addr} {l : List En} (h : Rd w A (ens l)) {k : Nat} (hk : k < l.length) :
    ∃ b off, A = some ⟨b, off, none⟩ ∧ b < w.heap.size ∧ w.cell? ⟨b, off + k * 4, none⟩ = some (.int .i64 l[k].1.1) ∧ w.cell? ⟨b, off + k * 4 + 1, none⟩ = some (.int .i64 l[k].1.2.1) ∧ w.cell? ⟨b, off + k * 4 + 2, none⟩ = some (.int .i64 l[k].1.2.2) ∧ w.cell? ⟨b, off + k * 4 + 3, none⟩ = some (.bool l[k].2) := by
  have hl := ens_len l
  obtain ⟨g0, g1, g2, g3⟩ := ens_get hk
  rcases h with h | ⟨b, off, e, hb, hc⟩
  · rw [h] at hl; simp at hl; omega
  · refine ⟨b, off, e, hb, ?_, ?_, ?_, ?_⟩
    · have := hc (k * 4) (by omega)
      rw [List.getElem?_eq_getElem (by omega)] at g0
      rw [this, g0]
    · have := hc (k * 4 + 1) (by omega)
      rw [List.getElem?_eq_getElem (by omega)] at g1
      rw [Nat.add_assoc, this, g1]
    · have := hc (k * 4 + 2) (by omega)
      rw [List.getElem?_eq_getElem (by omega)] at g2
      rw [Nat.add_assoc, this, g2]
    · have := hc (k * 4 + 3) (by omega)
      rw [List.getElem?_eq_getElem (by omega)] at g3
      rw [Nat.add_assoc, this, g3]
/-- What a row of the call's own reads as. -/
theorem own_rd {w : World} {e k n : Nat} {v : Value} {xs : List Value} (h : w.ownsRow 0 e k v n xs) : ∃ A c, v = .slice A n c ∧ Rd w A xs ∧ n ≤ c ∧ c ≤ 9223372036854775807 := by
  rcases h.2 with ⟨rfl, rfl⟩ | ⟨g, cap, cur, rfl, _, hh, hnc, hcm, hsz, ht⟩
  · exact ⟨none, 0, rfl, .inl (List.eq_nil_of_length_eq_zero (by have := h.1; omega)), Nat.le_refl _, by omega⟩
  · refine ⟨some ⟨g, 0, none⟩, cap, rfl, .inr ⟨g, 0, rfl, (Array.getElem?_eq_some_iff.1 hh).1, fun j hj => ?_⟩, hnc, by unfold maxLen at hcm; omega⟩
    have := h.cells (g := g) rfl j xs[j] (List.getElem?_eq_getElem hj)
    rw [add_none] at this
    exact this

set_option maxRecDepth 100000 in
set_option maxHeartbeats 1000000 in
theorem seenOf_any (A : Option Addr) (n c : Nat) (l : List En) (w : World) (h : Rd w A (ens l)) (hl : l.length = n) (hn : n ≤ 1000000) :
    Calls Try.prog 30 #[.slice A n c] w fun e w' => e = .returned (.int .i64 (seenN l)) ∧ Below w.heap.size w w' := by
  subst hl
  have H := Lib.hid h
  clear h
  have hle := seenN_le l
  go_enter Try.func30, Try.ntmps30
  go_wp2
  go_loopw [3, 8] (fun a i wr => ∃ k : Nat, k ≤ l.length ∧ i = .int .i64 (k : Int) ∧ a = .int .i64 (seenN (l.take k)) ∧ Below w.heap.size w wr) (fun _ i _ => l.length - (intOf i).toNat)
  case atStart => exact ⟨0, by omega, rfl, rfl, Below.refl _ _⟩
  case round =>
    obtain ⟨k, hk, rfl, rfl, hb⟩ := hrel
    have hsk : seenN (l.take k) ≤ 1000000 := by have := seenN_le (l.take k); rw [List.length_take] at this; omega
    by_cases hlt : k < l.length
    · obtain ⟨b, off, rfl, hbl, c0, c1, c2, c3⟩ := en_cells (H.out.keep hb) hlt
      have hsn := seenN_snoc hlt
      cases hs : l[k].2 with
      | true =>
        rw [hs] at c3 hsn
        have HS := Lib.hid hsn
        clear hsn hs
        go_wp2
        go_roundw
        case rel => exact ⟨k + 1, by omega, by go_num, by rw [HS.out]; simp, hb.alloc (Nat.le_trans (Nat.le_refl _) hb.size) _⟩
        case measure => simp [intOf]; omega
      | false =>
        rw [hs] at c3 hsn
        have HS := Lib.hid hsn
        clear hsn hs
        go_wp2
        go_roundw
        case rel => exact ⟨k + 1, by omega, by go_num, by rw [HS.out]; simp, hb.alloc (Nat.le_trans (Nat.le_refl _) hb.size) _⟩
        case measure => simp [intOf]; omega
    · obtain rfl : k = l.length := by omega
      rw [List.take_length]
      go_wp2
      go_ret
      exact ⟨rfl, hb⟩

end Go.Proofs.Ytnbgnjpjdplocaa.Q10
