/-
  Slices of floats that came in.
-/
import Derived.Test.YtcpacgflljmlaaaRows
import Derived.Test.YtcpacgflljmlaaaRd
import Derived.WalkKit
import Derived.WalkLawsBesides
import Derived.Deep.Slices
import Derived.ChangeArms
namespace Go.Proofs.Ytcpacgflljmlaaa
open Go.RowKit Go.ChangeShapes Go.WideShapes Go.Deep
set_option linter.unusedVariables false

/-- A SLICE OF FLOATS THAT CAME IN: it is nil; or it leads to a row of 'cap' cells, the bits 'zs'. -/
def IsFls (w : World) (a : Option Addr) (len cap : Nat) (zs : List Nat) : Prop :=
  (a = none ∧ len = 0 ∧ cap = 0 ∧ zs = []) ∨
  ∃ x, a = some x ∧ len ≤ cap ∧ cap ≤ maxLen ∧ zs.length = cap ∧ (∀ i, i < zs.length → w.cell? (x.add i) = some (.float .f64 (zs.getD i 0))) ∧ ∀ n ∈ zs, n < 18446744073709551616

section
variable {H : Type} {enc : TypeId × Value → H} {P : Program} {w : World} {base : Nat} {held : Bool}
theorem trod_f64 {t : TypeId} {fuel : Nat} {sp : Nat → Bool} {cs : List Value} {x : DataW H × List MemPlace} (ht : P.underlying t = some (.float .f64)) (h : DataW.trod enc P w base sp held fuel t cs = some x) :
    ∃ b, cs = [.float .f64 b] ∧ (Lit.float .f64 b).wf = true := by
  cases fuel with
  | zero => simp [DataW.trod] at h
  | succ n =>
    unfold DataW.trod at h
    rw [ht] at h
    split at h <;> simp_all
theorem open_f64s {t e : TypeId} {fuel : Nat} {cs : List Value} {x : DataW H × List MemPlace} (ht : P.underlying t = some (.slice e)) (he : P.underlying e = some (.float .f64)) (hc : P.cellsOf e = 1)
    (h : DataW.trod enc P w base (fun _ => true) held fuel t cs = some x) :
    (cs = [.slice none 0 0] ∧ x = (.nil, [])) ∨
    ∃ (a : Addr) (len cap : Nat) (zs : List Nat) (ds es : List (DataW H)), cs = [.slice (some a) len cap] ∧ len ≤ cap ∧ cap ≤ maxLen ∧ zs.length = cap ∧ x.1 = .slice ds es ∧ ds.length = len ∧ es.length = cap - len ∧
      (∀ i, i < zs.length → w.cell? (a.add i) = some (.float .f64 (zs.getD i 0))) ∧ ∀ n ∈ zs, n < 18446744073709551616 := by
  rcases open_slice1 ht hc h with h0 | ⟨a, len, cap, m, n, V, D, Pl, rfl, hb, hl, hm, hmm, rfl, hx⟩
  · exact .inl h0
  right
  simp only [if_true] at hmm
  subst hmm
  obtain ⟨B, hB⟩ := choose_lt (α := Nat) (p := fun i b => V i = .float .f64 b ∧ b < 18446744073709551616) (fun i hi => by
    obtain ⟨b, h1, h2⟩ := trod_f64 he (hx i hi).2
    exact ⟨b, by simpa using h1, of_decide_eq_true h2⟩)
  refine ⟨a, len, m, (List.range m).map B, _, _, rfl, hl, hm, by simp, rfl, by simp, by simp, fun i hi => ?_, fun n hn => ?_⟩
  · simp at hi
    rw [(hx i hi).1, (hB i hi).1]
    simp [hi]
  · simp at hn
    obtain ⟨i, hi, rfl⟩ := hn
    exact (hB i hi).2
end

theorem Rd.of_fls {w : World} {a : Option Addr} {len cap : Nat} {zs : List Nat} (h : IsFls w a len cap zs) :
    Rd w a ((zs.take len).map fun (n : Nat) => Value.float .f64 n) ∧ (zs.take len).length = len ∧ ∀ x ∈ zs.take len, x < 18446744073709551616 := by
  rcases h with ⟨rfl, rfl, rfl, rfl⟩ | ⟨x, rfl, hl, hm, hz, hc, hw⟩
  · exact ⟨.inl rfl, rfl, by simp⟩
  · have hlen : (zs.take len).length = len := by rw [List.length_take]; omega
    refine ⟨?_, hlen, fun z hz => hw z (List.mem_of_mem_take hz)⟩
    by_cases h0 : len = 0
    · subst h0; exact .inl (by simp)
    · obtain ⟨b, off, spot⟩ := x
      have hc0 := hc 0 (by omega)
      have hs : spot = none := by simpa [Addr.add] using World.cell?_spot hc0
      subst hs
      refine .inr ⟨b, off, rfl, ?_, fun j hj => ?_⟩
      · have := World.block_lt_of_cell? w _ hc0
        rw [add_none] at this
        exact this
      · simp only [List.length_map] at hj
        have := hc j (by omega)
        rw [add_none] at this
        rw [this]
        simp
        rw [List.getElem?_eq_getElem (by omega)]
        rfl

end Go.Proofs.Ytcpacgflljmlaaa
