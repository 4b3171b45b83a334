/-
  Layer 5, walks: what any right program answers.
-/
import Derived.Test.YticiolhfoeenmaaDoorS5p
namespace Go.Proofs.YticiolhfoeenmaaDoor.S5
open Go.RowKit Go.PlainAid Go.Shelf M5
set_option linter.unusedVariables false

theorem parse_some {s : List UInt8} {t r i : Int} (h : parseR s = some (t, r, i)) {w : World} (he : Env w) (hz : s.length ≤ 140737488351232) :
    Calls Tryd.prog 19 #[.string (bs s)] w fun e w' => e = .returned (.tuple #[.agg #[.int .i64 t, .int .i64 r, .int .i64 i], .bool true]) ∧ Below w.heap.size w w' := by
  have := parse_any s w he hz
  rw [h] at this
  exact this
theorem parse_not {s : List UInt8} (h : parseR s = none) {w : World} (he : Env w) (hz : s.length ≤ 140737488351232) :
    Calls Tryd.prog 19 #[.string (bs s)] w fun e w' => e = .returned (.tuple #[.agg #[.int .i64 0, .int .i64 0, .int .i64 0], .bool false]) ∧ Below w.heap.size w w' := by
  have := parse_any s w he hz
  rw [h] at this
  exact this
theorem text_as {t r i : Int} {l : List UInt8} (h : textR t r i = l) {w : World} (he : Env w) :
    Calls Tryd.prog 21 #[.agg #[.int .i64 t, .int .i64 r, .int .i64 i]] w fun e w' => e = .returned (.string (bs l)) ∧ Below w.heap.size w w' := by
  have := text_any t r i w he
  rw [h] at this
  exact this
theorem with_as {A : Option Addr} {n c : Nat} {v l : List Int} {r y x : Int} (h : withR v r y = (l, x)) {w : World} (hr : Rd w A (is v)) (hn : v.length = n) (hle : n ≤ 1000000000) :
    Calls Tryd.prog 23 #[.slice A n c, .int .i64 r, .int .i64 y] w (RetVecE l x w) := by
  have := with_any A n c v r y w hr hn hle
  rw [h] at this
  exact this
theorem rd_lit (w : World) (l : List Int) (e : TypeId) (h : l.length ≤ 100) (g : Nat) (hg : g = w.heap.size) : Rd (w.alloc (.cells (is l).toArray e)) (some ⟨g, 0, none⟩) (is l) := by
  subst hg
  have ho := World.ownsRow_lit (base := w.heap.size) (size := 1) (e := e) w (is l).toArray l.length (Nat.le_refl _) (by unfold maxLen; omega) (by simp [is_len])
  exact own_rd ho
theorem parse_good : parseR [51, 46, 49, 46, 48] = some (3, 1, 0) := by decide +kernel
theorem parse_nought : parseR [48, 51, 46, 49, 46, 48] = none := by decide +kernel
theorem text_good : textR 3 1 0 = [51, 46, 49, 46, 48] := ((parseR_some (l := [51, 46, 49, 46, 48])).1 parse_good).2.symm
theorem with_good : withR [1] 3 2 = ([1, 0, 2], 0) := by decide +kernel
theorem covers_good : coversL [2, 1] [2] = true := by decide +kernel

set_option maxRecDepth 100000 in
set_option maxHeartbeats 2000000 in
theorem awake_any (w : World) (he : Env w) : Calls Tryd.prog 10 #[] w fun e w' => e = .returned (.bool true) ∧ Below w.heap.size w w' := by
  have e0 := he.keep (new1 w (.cells #[.int .i64 3, .int .i64 1, .int .i64 0] 25))
  have b0 := new1 w (.cells #[.int .i64 3, .int .i64 1, .int .i64 0] 25)
  have x0 : Trio (w.alloc (.cells #[.int .i64 3, .int .i64 1, .int .i64 0] 25)) w.heap.size 25 3 1 0 := heap_alloc_new w _
  have E0 := Lib.hid e0
  have B0 := Lib.hid b0
  have X0 := Lib.hid x0
  clear he e0 b0 x0
  go_enter Tryd.func10, Tryd.ntmps10
  go_wp2_with fail
  refine (parse_some (s := [51, 46, 49, 46, 48]) parse_good E0.out (by decide)).mono ?_
  rintro e w1 ⟨rfl, hb1⟩
  have E1 := Lib.hid ((E0.out.keep hb1).keep (new1 w1 (.cells #[.int .i64 3, .int .i64 1, .int .i64 0] 25)))
  have B1 := Lib.hid (chain (chain B0.out hb1) (new1 w1 (.cells #[.int .i64 3, .int .i64 1, .int .i64 0] 25)))
  have X1 := Lib.hid ((X0.out.keep hb1).keep (new1 w1 (.cells #[.int .i64 3, .int .i64 1, .int .i64 0] 25)))
  have Y1 : Hid (Trio (w1.alloc (.cells #[.int .i64 3, .int .i64 1, .int .i64 0] 25)) w1.heap.size 25 3 1 0) := heap_alloc_new w1 _
  clear hb1 E0 B0 X0
  go_wp2_with fail
  refine (parse_not (s := [48, 51, 46, 49, 46, 48]) parse_nought E1.out (by decide)).mono ?_
  rintro e w2 ⟨rfl, hb2⟩
  have E2 := Lib.hid ((E1.out.keep hb2).keep (new1 w2 (.cells #[.int .i64 0, .int .i64 0, .int .i64 0] 25)))
  have B2 := Lib.hid (chain (chain B1.out hb2) (new1 w2 (.cells #[.int .i64 0, .int .i64 0, .int .i64 0] 25)))
  have X2 := Lib.hid ((X1.out.keep hb2).keep (new1 w2 (.cells #[.int .i64 0, .int .i64 0, .int .i64 0] 25)))
  have Y2 := Lib.hid ((Y1.out.keep hb2).keep (new1 w2 (.cells #[.int .i64 0, .int .i64 0, .int .i64 0] 25)))
  clear hb2 E1 B1 X1 Y1
  have r3 : Rd ((w2.alloc (.cells #[.int .i64 0, .int .i64 0, .int .i64 0] 25)).alloc (.cells #[.int .i64 1] 3)) (some ⟨w2.heap.size + 1, 0, none⟩) (is [1]) := rd_lit _ [1] 3 (by decide) _ (by simp)
  have R3 := Lib.hid r3
  have n3 := new1 (w2.alloc (.cells #[.int .i64 0, .int .i64 0, .int .i64 0] 25)) (.cells #[.int .i64 1] 3)
  have E3 := Lib.hid (E2.out.keep n3)
  have B3 := Lib.hid (chain B2.out n3)
  have X3 := Lib.hid (X2.out.keep n3)
  have Y3 := Lib.hid (Y2.out.keep n3)
  clear r3 n3 E2 B2 X2 Y2
  go_wp2_with fail
  refine (with_as with_good R3.out rfl (by decide)).mono ?_
  rintro e w3 ⟨A, k, c, rfl, hr4, hl4, hb3⟩
  obtain rfl : k = 3 := by simpa using hl4.symm
  have R4 := Lib.hid hr4
  have E4 := Lib.hid (E3.out.keep hb3)
  have B4 := Lib.hid (chain B3.out hb3)
  have hx := X3.out.keep hb3
  have Y4 := Lib.hid (Y3.out.keep hb3)
  have X4 := Lib.hid hx
  obtain ⟨x0, x1, x2⟩ := hx.cells
  clear hr4 hl4 hx hb3 E3 B3 X3 Y3 R3
  go_wp2_with fail
  refine (text_as text_good E4.out).mono ?_
  rintro e w4 ⟨rfl, hb4⟩
  have R5 := Lib.hid (R4.out.keep hb4)
  have B5 := Lib.hid (chain B4.out hb4)
  obtain ⟨x0, x1, x2⟩ := (X4.out.keep hb4).cells
  obtain ⟨y0, y1, y2⟩ := (Y4.out.keep hb4).cells
  have hq : ((bs [51, 46, 49, 46, 48]).toList == [51, 46, 49, 46, 48]) = true := by rw [bs_toList]; rfl
  clear hb4 E4 B4 X4 Y4 R4
  have r6 : Rd (w4.alloc (.cells #[.int .i64 1, .int .i64 0, .int .i64 2] 3)) (some ⟨w4.heap.size, 0, none⟩) (is [1, 0, 2]) := rd_lit _ [1, 0, 2] 3 (by decide) _ (by simp)
  have n6 := new1 w4 (.cells #[.int .i64 1, .int .i64 0, .int .i64 2] 3)
  have R6 := Lib.hid r6
  have R7 := Lib.hid (R5.out.keep n6)
  have B6 := Lib.hid (chain B5.out n6)
  clear r6 n6 R5 B5
  go_wp2_with fail
  refine (same_any A _ 3 3 c _ [1, 0, 2] [1, 0, 2] _ R7.out R6.out rfl rfl (by decide) (by decide)).mono ?_
  rintro e w5 ⟨rfl, hb5⟩
  rw [show decide (([1, 0, 2] : List Int) = [1, 0, 2]) = true by decide]
  have B7 := Lib.hid (chain B6.out hb5)
  clear hb5 R6 R7 B6 x0 x1 x2 y0 y1 y2 hq
  have r8 : Rd ((w5.alloc (.cells #[.int .i64 2, .int .i64 1] 3)).alloc (.cells #[.int .i64 2] 3)) (some ⟨w5.heap.size, 0, none⟩) (is [2, 1]) :=
    (rd_lit _ [2, 1] 3 (by decide) _ (by simp) : Rd (w5.alloc (.cells #[.int .i64 2, .int .i64 1] 3)) (some ⟨w5.heap.size, 0, none⟩) (is [2, 1])).keep (new1 _ _)
  have r9 : Rd ((w5.alloc (.cells #[.int .i64 2, .int .i64 1] 3)).alloc (.cells #[.int .i64 2] 3)) (some ⟨w5.heap.size + 1, 0, none⟩) (is [2]) := rd_lit _ [2] 3 (by decide) _ (by simp)
  have R8 := Lib.hid r8
  have R9 := Lib.hid r9
  have B8 := Lib.hid (chain B7.out (new2 w5 (.cells #[.int .i64 2, .int .i64 1] 3) (.cells #[.int .i64 2] 3)))
  clear r8 r9 B7
  go_wp2_with fail
  refine (covers_any _ _ 2 1 _ _ [2, 1] [2] _ R8.out R9.out rfl rfl (by decide) (by decide)).mono ?_
  rintro e w6 ⟨rfl, rfl⟩
  rw [covers_good]
  go_wp2
  go_ret
  exact ⟨rfl, B8.out⟩

end Go.Proofs.YticiolhfoeenmaaDoor.S5
