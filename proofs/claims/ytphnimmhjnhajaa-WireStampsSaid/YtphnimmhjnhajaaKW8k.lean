/-
  Layer 8, walks: numbers and ids as bytes.
-/
import Derived.Test.YtphnimmhjnhajaaKW8j
import Derived.Test.YtphnimmhjnhajaaKB
namespace Go.Proofs.Ytphnimmhjnhajaa.W8
open Go.RowKit Go.PlainAid M8 V1
set_option linter.unusedVariables false

/-- A number's bytes; none below 0. -/
def numB (n : Int) : List UInt8 := (natR n).1
theorem numB_len {n : Int} (h : n ≤ 9223372036854775807) : (numB n).length ≤ 9 := by
  unfold numB natR
  split
  · simp
  · exact natB_len9 (by omega)
theorem numB_of (n : Nat) : numB (n : Int) = natB n := by unfold numB natR; rw [if_neg (by omega)]; simp

/-- What stays while an id's bytes are made: the boxed id. -/
def HeldI (w : World) (b : Nat) (t r i : Int) (w' : World) : Prop :=
  w'.cell? ⟨b, 0, none⟩ = some (.int .i64 t) ∧ w'.cell? ⟨b, 1, none⟩ = some (.int .i64 r) ∧ w'.cell? ⟨b, 2, none⟩ = some (.int .i64 i) ∧ Below w.heap.size w w' ∧ b < w'.heap.size
theorem HeldI.keep {w : World} {b : Nat} {t r i : Int} {a a' : World} (h : HeldI w b t r i a) (hb : Below a.heap.size a a') : HeldI w b t r i a' := by
  obtain ⟨h0, h1, h2, h4, h5⟩ := h
  exact ⟨bcell hb h5 h0, bcell hb h5 h1, bcell hb h5 h2, chain h4 hb, Nat.lt_of_lt_of_le h5 hb.size⟩
theorem add8 {P : Program} {a b : List UInt8} (h : a.length + b.length ≤ 9223372036854775807) (w : World) : (Op.stringOp .add (bs a) (bs b)).run P w = .ok (.string (bs (a ++ b))) w := by
  rw [run_string_add_sum (P := P) (w := w) (a := bs a) (b := bs b) (by rw [bs_size, bs_size]; omega), bs_join]

end Go.Proofs.Ytphnimmhjnhajaa.W8

