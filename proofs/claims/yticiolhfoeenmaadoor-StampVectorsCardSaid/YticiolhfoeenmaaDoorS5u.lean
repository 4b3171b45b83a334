/-
  Layer 5: ids come back from their texts.
-/
import Derived.Test.YticiolhfoeenmaaDoorS5t
namespace Go.Proofs.YticiolhfoeenmaaDoor.S5
open Go.RowKit Go.PlainAid Go.Shelf M5
set_option linter.unusedVariables false

theorem textR_short (t r i : Int) : (textR t r i).length ≤ 140737488351232 := by
  unfold textR
  split
  · rename_i h
    have hb := rightId_iff.1 h
    have := idText_len (t := t.toNat) (r := r.toNat) (i := i.toNat) (by omega) (by omega) (by omega)
    omega
  · simp

set_option maxRecDepth 100000 in
set_option maxHeartbeats 1000000 in
theorem back_right_some (w : World) (he : Env w) (t r i : Int) (l : List UInt8) (hz : l.length ≤ 140737488351232) (hri : rightId t r i = true) (a b c : Int) (hp : parseR l = some (a, b, c)) :
    Calls Tryd.prog 7 #[.agg #[.int .i64 t, .int .i64 r, .int .i64 i], .string (bs l)] w fun e w' => e = .returned (.bool true) ∧ Below w.heap.size w w' := by
  have HRI := Lib.hid hri
  have HP1 : Hid (parseR (textR t r i) = some (t, r, i)) := by show _ = _; exact parseR_text hri
  have HTL := Lib.hid (textR_short t r i)
  have HP2 := Lib.hid hp
  have HS : Hid (textR a b c = l) := (parseR_some.1 hp).2.symm
  have E0 := Lib.hid (he.keep (new1 w (.cells #[.int .i64 t, .int .i64 r, .int .i64 i] 25)))
  have B0 := Lib.hid (new1 w (.cells #[.int .i64 t, .int .i64 r, .int .i64 i] 25))
  have X0 : Hid (Trio (w.alloc (.cells #[.int .i64 t, .int .i64 r, .int .i64 i] 25)) w.heap.size 25 t r i) := heap_alloc_new w _
  clear hp he hri
  go_enter Tryd.func7, Tryd.ntmps7
  go_wp2_with fail
  refine (awake_any _ E0.out).mono ?_
  rintro e w1 ⟨rfl, hb1⟩
  have E1 := Lib.hid (E0.out.keep hb1)
  have B1 := Lib.hid (chain B0.out hb1)
  have X1 := Lib.hid (X0.out.keep hb1)
  obtain ⟨x0, x1, x2⟩ := X1.out.cells
  clear hb1 E0 B0 X0
  go_wp2_with fail
  refine (text_any t r i _ E1.out).mono ?_
  rintro e w2 ⟨rfl, hb2⟩
  have E2 := Lib.hid (E1.out.keep hb2)
  have B2 := Lib.hid (chain B1.out hb2)
  have X2 := Lib.hid (X1.out.keep hb2)
  clear hb2 E1 B1 X1 x0 x1 x2
  go_wp2_with fail
  refine (parse_some HP1.out E2.out HTL.out).mono ?_
  rintro e w3 ⟨rfl, hb3⟩
  have n3 := new1 w3 (.cells #[.int .i64 t, .int .i64 r, .int .i64 i] 25)
  have E3 := Lib.hid ((E2.out.keep hb3).keep n3)
  have B3 := Lib.hid (chain (chain B2.out hb3) n3)
  have X3 := Lib.hid ((X2.out.keep hb3).keep n3)
  have Y3 : Hid (Trio (w3.alloc (.cells #[.int .i64 t, .int .i64 r, .int .i64 i] 25)) w3.heap.size 25 t r i) := heap_alloc_new w3 _
  obtain ⟨x0, x1, x2⟩ := X3.out.cells
  clear hb3 n3 E2 B2 X2
  go_wp2_with fail
  refine (rightId_any t r i _).mono ?_
  rintro e w4 ⟨rfl, hb4⟩
  rw [HRI.out]
  have E4 := Lib.hid (E3.out.keep hb4)
  have B4 := Lib.hid (chain B3.out hb4)
  obtain ⟨x0, x1, x2⟩ := (X3.out.keep hb4).cells
  obtain ⟨y0, y1, y2⟩ := (Y3.out.keep hb4).cells
  clear hb4 E3 B3 X3 Y3
  go_wp2_with fail
  refine (parse_some HP2.out E4.out hz).mono ?_
  rintro e w5 ⟨rfl, hb5⟩
  have n5 := new1 w5 (.cells #[.int .i64 a, .int .i64 b, .int .i64 c] 25)
  have B5 := Lib.hid (chain (chain B4.out hb5) n5)
  have E5 := Lib.hid ((E4.out.keep hb5).keep n5)
  have Z5 : Hid (Trio (w5.alloc (.cells #[.int .i64 a, .int .i64 b, .int .i64 c] 25)) w5.heap.size 25 a b c) := heap_alloc_new w5 _
  obtain ⟨z0, z1, z2⟩ := Z5.out.cells
  clear hb5 n5 E4 B4 x0 x1 x2 y0 y1 y2
  go_wp2_with fail
  refine (text_as HS.out E5.out).mono ?_
  rintro e w6 ⟨rfl, hb6⟩
  have B6 := Lib.hid (chain B5.out hb6)
  clear hb6 E5 Z5 z0 z1 z2
  go_wp2
  go_ret
  exact ⟨rfl, B6.out⟩

set_option maxRecDepth 100000 in
set_option maxHeartbeats 1000000 in
theorem back_right_none (w : World) (he : Env w) (t r i : Int) (l : List UInt8) (hz : l.length ≤ 140737488351232) (hri : rightId t r i = true) (hp : parseR l = none) :
    Calls Tryd.prog 7 #[.agg #[.int .i64 t, .int .i64 r, .int .i64 i], .string (bs l)] w fun e w' => e = .returned (.bool true) ∧ Below w.heap.size w w' := by
  have HRI := Lib.hid hri
  have HP1 : Hid (parseR (textR t r i) = some (t, r, i)) := by show _ = _; exact parseR_text hri
  have HTL := Lib.hid (textR_short t r i)
  have HP2 := Lib.hid hp
  have E0 := Lib.hid (he.keep (new1 w (.cells #[.int .i64 t, .int .i64 r, .int .i64 i] 25)))
  have B0 := Lib.hid (new1 w (.cells #[.int .i64 t, .int .i64 r, .int .i64 i] 25))
  have X0 : Hid (Trio (w.alloc (.cells #[.int .i64 t, .int .i64 r, .int .i64 i] 25)) w.heap.size 25 t r i) := heap_alloc_new w _
  clear hp he hri
  go_enter Tryd.func7, Tryd.ntmps7
  go_wp2_with fail
  refine (awake_any _ E0.out).mono ?_
  rintro e w1 ⟨rfl, hb1⟩
  have E1 := Lib.hid (E0.out.keep hb1)
  have B1 := Lib.hid (chain B0.out hb1)
  have X1 := Lib.hid (X0.out.keep hb1)
  obtain ⟨x0, x1, x2⟩ := X1.out.cells
  clear hb1 E0 B0 X0
  go_wp2_with fail
  refine (text_any t r i _ E1.out).mono ?_
  rintro e w2 ⟨rfl, hb2⟩
  have E2 := Lib.hid (E1.out.keep hb2)
  have B2 := Lib.hid (chain B1.out hb2)
  have X2 := Lib.hid (X1.out.keep hb2)
  clear hb2 E1 B1 X1 x0 x1 x2
  go_wp2_with fail
  refine (parse_some HP1.out E2.out HTL.out).mono ?_
  rintro e w3 ⟨rfl, hb3⟩
  have n3 := new1 w3 (.cells #[.int .i64 t, .int .i64 r, .int .i64 i] 25)
  have E3 := Lib.hid ((E2.out.keep hb3).keep n3)
  have B3 := Lib.hid (chain (chain B2.out hb3) n3)
  have X3 := Lib.hid ((X2.out.keep hb3).keep n3)
  have Y3 : Hid (Trio (w3.alloc (.cells #[.int .i64 t, .int .i64 r, .int .i64 i] 25)) w3.heap.size 25 t r i) := heap_alloc_new w3 _
  obtain ⟨x0, x1, x2⟩ := X3.out.cells
  clear hb3 n3 E2 B2 X2
  go_wp2_with fail
  refine (rightId_any t r i _).mono ?_
  rintro e w4 ⟨rfl, hb4⟩
  rw [HRI.out]
  have E4 := Lib.hid (E3.out.keep hb4)
  have B4 := Lib.hid (chain B3.out hb4)
  obtain ⟨x0, x1, x2⟩ := (X3.out.keep hb4).cells
  obtain ⟨y0, y1, y2⟩ := (Y3.out.keep hb4).cells
  clear hb4 E3 B3 X3 Y3
  go_wp2_with fail
  refine (parse_not HP2.out E4.out hz).mono ?_
  rintro e w5 ⟨rfl, hb5⟩
  have n5 := new1 w5 (.cells #[.int .i64 0, .int .i64 0, .int .i64 0] 25)
  have B5 := Lib.hid (chain (chain B4.out hb5) n5)
  clear hb5 n5 E4 B4 x0 x1 x2 y0 y1 y2
  go_wp2
  go_ret
  exact ⟨rfl, B5.out⟩

set_option maxRecDepth 100000 in
set_option maxHeartbeats 1000000 in
theorem back_wrong_some (w : World) (he : Env w) (t r i : Int) (l : List UInt8) (hz : l.length ≤ 140737488351232) (hri : rightId t r i = false) (a b c : Int) (hp : parseR l = some (a, b, c)) :
    Calls Tryd.prog 7 #[.agg #[.int .i64 t, .int .i64 r, .int .i64 i], .string (bs l)] w fun e w' => e = .returned (.bool true) ∧ Below w.heap.size w w' := by
  have HRI := Lib.hid hri
  have HP1 : Hid (parseR (textR t r i) = none) := by show _ = _; rw [textR_wrong hri]; exact parseR_nil
  have HTL := Lib.hid (textR_short t r i)
  have HP2 := Lib.hid hp
  have HS : Hid (textR a b c = l) := (parseR_some.1 hp).2.symm
  have E0 := Lib.hid (he.keep (new1 w (.cells #[.int .i64 t, .int .i64 r, .int .i64 i] 25)))
  have B0 := Lib.hid (new1 w (.cells #[.int .i64 t, .int .i64 r, .int .i64 i] 25))
  have X0 : Hid (Trio (w.alloc (.cells #[.int .i64 t, .int .i64 r, .int .i64 i] 25)) w.heap.size 25 t r i) := heap_alloc_new w _
  clear hp he hri
  go_enter Tryd.func7, Tryd.ntmps7
  go_wp2_with fail
  refine (awake_any _ E0.out).mono ?_
  rintro e w1 ⟨rfl, hb1⟩
  have E1 := Lib.hid (E0.out.keep hb1)
  have B1 := Lib.hid (chain B0.out hb1)
  have X1 := Lib.hid (X0.out.keep hb1)
  obtain ⟨x0, x1, x2⟩ := X1.out.cells
  clear hb1 E0 B0 X0
  go_wp2_with fail
  refine (text_any t r i _ E1.out).mono ?_
  rintro e w2 ⟨rfl, hb2⟩
  have E2 := Lib.hid (E1.out.keep hb2)
  have B2 := Lib.hid (chain B1.out hb2)
  have X2 := Lib.hid (X1.out.keep hb2)
  clear hb2 E1 B1 X1 x0 x1 x2
  go_wp2_with fail
  refine (parse_not HP1.out E2.out HTL.out).mono ?_
  rintro e w3 ⟨rfl, hb3⟩
  have n3 := new1 w3 (.cells #[.int .i64 0, .int .i64 0, .int .i64 0] 25)
  have E3 := Lib.hid ((E2.out.keep hb3).keep n3)
  have B3 := Lib.hid (chain (chain B2.out hb3) n3)
  have X3 := Lib.hid ((X2.out.keep hb3).keep n3)
  have Y3 : Hid (Trio (w3.alloc (.cells #[.int .i64 0, .int .i64 0, .int .i64 0] 25)) w3.heap.size 25 0 0 0) := heap_alloc_new w3 _
  obtain ⟨x0, x1, x2⟩ := X3.out.cells
  clear hb3 n3 E2 B2 X2
  go_wp2_with fail
  refine (rightId_any t r i _).mono ?_
  rintro e w4 ⟨rfl, hb4⟩
  rw [HRI.out]
  have E4 := Lib.hid (E3.out.keep hb4)
  have B4 := Lib.hid (chain B3.out hb4)
  obtain ⟨x0, x1, x2⟩ := (X3.out.keep hb4).cells
  obtain ⟨y0, y1, y2⟩ := (Y3.out.keep hb4).cells
  clear hb4 E3 B3 X3 Y3
  go_wp2_with fail
  refine (parse_some HP2.out E4.out hz).mono ?_
  rintro e w5 ⟨rfl, hb5⟩
  have n5 := new1 w5 (.cells #[.int .i64 a, .int .i64 b, .int .i64 c] 25)
  have B5 := Lib.hid (chain (chain B4.out hb5) n5)
  have E5 := Lib.hid ((E4.out.keep hb5).keep n5)
  have Z5 : Hid (Trio (w5.alloc (.cells #[.int .i64 a, .int .i64 b, .int .i64 c] 25)) w5.heap.size 25 a b c) := heap_alloc_new w5 _
  obtain ⟨z0, z1, z2⟩ := Z5.out.cells
  clear hb5 n5 E4 B4 x0 x1 x2 y0 y1 y2
  go_wp2_with fail
  refine (text_as HS.out E5.out).mono ?_
  rintro e w6 ⟨rfl, hb6⟩
  have B6 := Lib.hid (chain B5.out hb6)
  clear hb6 E5 Z5 z0 z1 z2
  go_wp2
  go_ret
  exact ⟨rfl, B6.out⟩

set_option maxRecDepth 100000 in
set_option maxHeartbeats 1000000 in
theorem back_wrong_none (w : World) (he : Env w) (t r i : Int) (l : List UInt8) (hz : l.length ≤ 140737488351232) (hri : rightId t r i = false) (hp : parseR l = none) :
    Calls Tryd.prog 7 #[.agg #[.int .i64 t, .int .i64 r, .int .i64 i], .string (bs l)] w fun e w' => e = .returned (.bool true) ∧ Below w.heap.size w w' := by
  have HRI := Lib.hid hri
  have HP1 : Hid (parseR (textR t r i) = none) := by show _ = _; rw [textR_wrong hri]; exact parseR_nil
  have HTL := Lib.hid (textR_short t r i)
  have HP2 := Lib.hid hp
  have E0 := Lib.hid (he.keep (new1 w (.cells #[.int .i64 t, .int .i64 r, .int .i64 i] 25)))
  have B0 := Lib.hid (new1 w (.cells #[.int .i64 t, .int .i64 r, .int .i64 i] 25))
  have X0 : Hid (Trio (w.alloc (.cells #[.int .i64 t, .int .i64 r, .int .i64 i] 25)) w.heap.size 25 t r i) := heap_alloc_new w _
  clear hp he hri
  go_enter Tryd.func7, Tryd.ntmps7
  go_wp2_with fail
  refine (awake_any _ E0.out).mono ?_
  rintro e w1 ⟨rfl, hb1⟩
  have E1 := Lib.hid (E0.out.keep hb1)
  have B1 := Lib.hid (chain B0.out hb1)
  have X1 := Lib.hid (X0.out.keep hb1)
  obtain ⟨x0, x1, x2⟩ := X1.out.cells
  clear hb1 E0 B0 X0
  go_wp2_with fail
  refine (text_any t r i _ E1.out).mono ?_
  rintro e w2 ⟨rfl, hb2⟩
  have E2 := Lib.hid (E1.out.keep hb2)
  have B2 := Lib.hid (chain B1.out hb2)
  have X2 := Lib.hid (X1.out.keep hb2)
  clear hb2 E1 B1 X1 x0 x1 x2
  go_wp2_with fail
  refine (parse_not HP1.out E2.out HTL.out).mono ?_
  rintro e w3 ⟨rfl, hb3⟩
  have n3 := new1 w3 (.cells #[.int .i64 0, .int .i64 0, .int .i64 0] 25)
  have E3 := Lib.hid ((E2.out.keep hb3).keep n3)
  have B3 := Lib.hid (chain (chain B2.out hb3) n3)
  have X3 := Lib.hid ((X2.out.keep hb3).keep n3)
  have Y3 : Hid (Trio (w3.alloc (.cells #[.int .i64 0, .int .i64 0, .int .i64 0] 25)) w3.heap.size 25 0 0 0) := heap_alloc_new w3 _
  obtain ⟨x0, x1, x2⟩ := X3.out.cells
  clear hb3 n3 E2 B2 X2
  go_wp2_with fail
  refine (rightId_any t r i _).mono ?_
  rintro e w4 ⟨rfl, hb4⟩
  rw [HRI.out]
  have E4 := Lib.hid (E3.out.keep hb4)
  have B4 := Lib.hid (chain B3.out hb4)
  obtain ⟨x0, x1, x2⟩ := (X3.out.keep hb4).cells
  obtain ⟨y0, y1, y2⟩ := (Y3.out.keep hb4).cells
  clear hb4 E3 B3 X3 Y3
  go_wp2_with fail
  refine (parse_not HP2.out E4.out hz).mono ?_
  rintro e w5 ⟨rfl, hb5⟩
  have n5 := new1 w5 (.cells #[.int .i64 0, .int .i64 0, .int .i64 0] 25)
  have B5 := Lib.hid (chain (chain B4.out hb5) n5)
  clear hb5 n5 E4 B4 x0 x1 x2 y0 y1 y2
  go_wp2
  go_ret
  exact ⟨rfl, B5.out⟩

theorem lawBack (w : World) (he : Env w) (t r i : Int) (s : ByteArray) (hz : s.size ≤ 140737488351232) :
    Calls Tryd.prog 7 #[.agg #[.int .i64 t, .int .i64 r, .int .i64 i], .string s] w fun e w' => e = .returned (.bool true) ∧ Below w.heap.size w w' := by
  obtain ⟨l, rfl⟩ : ∃ l, s = bs l := ⟨s.data.toList, (bs_of s).symm⟩
  rw [bs_size] at hz
  cases hr : rightId t r i with
  | true =>
    cases hp : parseR l with
    | none => exact back_right_none w he t r i l hz hr hp
    | some x => obtain ⟨a, b, c⟩ := x; exact back_right_some w he t r i l hz hr a b c hp
  | false =>
    cases hp : parseR l with
    | none => exact back_wrong_none w he t r i l hz hr hp
    | some x => obtain ⟨a, b, c⟩ := x; exact back_wrong_some w he t r i l hz hr a b c hp

end Go.Proofs.YticiolhfoeenmaaDoor.S5
