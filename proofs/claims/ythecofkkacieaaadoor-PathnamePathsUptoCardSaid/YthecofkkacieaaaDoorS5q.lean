/-
  Layer 5, walks: what any right program answers.
-/
import Derived.Test.YthecofkkacieaaaDoorS5p
namespace Go.Proofs.YthecofkkacieaaaDoor.S5
open Go.RowKit Go.PlainAid Go.Shelf M5
set_option linter.unusedVariables false

theorem parse_some {s : List UInt8} {t r i : Int} (h : parseR s = some (t, r, i)) {w : World} (he : Env w) (hz : s.length ≤ 140737488351232) :
    Calls Tryd.prog 25 #[.string (bs s)] w fun e w' => e = .returned (.tuple #[.agg #[.int .i64 t, .int .i64 r, .int .i64 i], .bool true]) ∧ Below w.heap.size w w' := by
  have := parse_any s w he hz
  rw [h] at this
  exact this
theorem parse_not {s : List UInt8} (h : parseR s = none) {w : World} (he : Env w) (hz : s.length ≤ 140737488351232) :
    Calls Tryd.prog 25 #[.string (bs s)] w fun e w' => e = .returned (.tuple #[.agg #[.int .i64 0, .int .i64 0, .int .i64 0], .bool false]) ∧ Below w.heap.size w w' := by
  have := parse_any s w he hz
  rw [h] at this
  exact this
theorem text_as {t r i : Int} {l : List UInt8} (h : textR t r i = l) {w : World} (he : Env w) :
    Calls Tryd.prog 21 #[.agg #[.int .i64 t, .int .i64 r, .int .i64 i]] w fun e w' => e = .returned (.string (bs l)) ∧ Below w.heap.size w w' := by
  have := text_any t r i w he
  rw [h] at this
  exact this
theorem rd_lit (w : World) (l : List Int) (e : TypeId) (h : l.length ≤ 100) (g : Nat) (hg : g = w.heap.size) : Rd (w.alloc (.cells (is l).toArray e)) (some ⟨g, 0, none⟩) (is l) := by
  subst hg
  have ho := World.ownsRow_lit (base := w.heap.size) (size := 1) (e := e) w (is l).toArray l.length (Nat.le_refl _) (by unfold maxLen; omega) (by simp [is_len])
  exact own_rd ho
theorem parse_good : parseR [51, 46, 49, 46, 48] = some (3, 1, 0) := by decide +kernel
theorem parse_nought : parseR [48, 51, 46, 49, 46, 48] = none := by decide +kernel
theorem text_good : textR 3 1 0 = [51, 46, 49, 46, 48] := ((parseR_some (l := [51, 46, 49, 46, 48])).1 parse_good).2.symm
theorem with_good : withR [1] 3 2 = ([1, 0, 2], 0) := by decide +kernel
theorem covers_good : coversL [2, 1] [2] = true := by decide +kernel

end Go.Proofs.YthecofkkacieaaaDoor.S5
