/-
  Layer 2: what a right program answers (awake), and the laws.
-/
import Derived.Test.YtehclfpjccfmeaaC2d
namespace Go.Proofs.Ytehclfpjccfmeaa.C2
open Go.RowKit Go.PlainAid M2
set_option linter.unusedVariables false

theorem sum_as {A : Option Addr} {n c : Nat} {t : List Nat} {s : ByteArray} {w : World} {x : Nat} {e : Int} (h : sumR t s.data.toList = (x, e)) (hr : Rd w A (u32s t)) (hl : t.length = n) (ht : ∀ x ∈ t, x < 4294967296) (hs : s.size ≤ 9223372036854775807) :
    Calls Try.prog 20 #[.slice A n c, .string s] w fun y w' => y = .returned (.tuple #[.int .u32 (x : Int), .int .i64 e]) ∧ w = w' := by
  have := sum_any A n c t s w hr hl ht hs
  rw [h] at this
  exact this
theorem refSum_as {A : Option Addr} {n c : Nat} {t : List Nat} {s : ByteArray} {w : World} {x : Nat} {e : Int} (h : sumR t s.data.toList = (x, e)) (hr : Rd w A (u32s t)) (hl : t.length = n) (ht : ∀ x ∈ t, x < 4294967296) (hs : s.size ≤ 9223372036854775807) :
    Calls Try.prog 23 #[.slice A n c, .string s] w fun y w' => y = .returned (.tuple #[.int .u32 (x : Int), .int .i64 e]) ∧ w = w' := by
  have := refSum_any A n c t s w hr hl ht hs
  rw [h] at this
  exact this

theorem look' {w : World} {A : Option Addr} {t : List Nat} (hr : Rd w A (u32s t)) {k : Nat} (hk : k < t.length) :
    ∃ b off, A = some ⟨b, off, none⟩ ∧ b < w.heap.size ∧ w.cell? ⟨b, off + k, none⟩ = some (.int .u32 ((t.getD k 0 : Nat) : Int)) := by
  obtain ⟨b, off, e, hb, h⟩ := hr.get (k := k) (by rw [u32s_len]; exact hk)
  refine ⟨b, off, e, hb, ?_⟩
  rw [h]
  simp [u32s, List.getD_eq_getElem?_getD]
  rw [List.getElem?_eq_getElem hk]
  rfl

/-- The sum with the table. -/
def crc (l : List UInt8) : Nat := fin (plain 4294967295 l)
theorem crc_lt (l : List UInt8) : crc l < 4294967296 := xlt (plain_lt l (by omega)) (by omega)
theorem sumR_tab (l : List UInt8) : sumR tab l = (crc l, 0) := by
  unfold sumR crc
  rw [if_neg (by rw [tab_len]; simp), tsum_tab]
theorem sum_tab {A : Option Addr} {c : Nat} (s : ByteArray) {w : World} (hr : Rd w A (u32s tab)) (hs : s.size ≤ 9223372036854775807) :
    Calls Try.prog 20 #[.slice A 256 c, .string s] w fun y w' => y = .returned (.tuple #[.int .u32 (crc s.data.toList : Int), .int .i64 0]) ∧ w = w' :=
  sum_as (sumR_tab _) hr tab_len tab_lt hs

theorem crc_nine : crc [49, 50, 51, 52, 53, 54, 55, 56, 57] = 3421780262 := by decide +kernel

end Go.Proofs.Ytehclfpjccfmeaa.C2
