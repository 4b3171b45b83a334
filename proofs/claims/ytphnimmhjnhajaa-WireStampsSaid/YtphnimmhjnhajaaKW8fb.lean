/-
  Layer 8, walks: operations that differ, the later cells.
-/
import Derived.Test.YtphnimmhjnhajaaKW8e
namespace Go.Proofs.Ytphnimmhjnhajaa.W8
open Go.RowKit Go.PlainAid M8
set_option linter.unusedVariables false

set_option maxRecDepth 100000 in
set_option maxHeartbeats 4000000 in
theorem sameOp_no11 (x y : OpR) (w : World) (h0 : x.o.kind = y.o.kind) (h1 : x.o.node.1 = y.o.node.1) (h2 : x.o.node.2.1 = y.o.node.2.1) (h3 : x.o.node.2.2 = y.o.node.2.2) (h4 : x.o.parent.1 = y.o.parent.1) (h5 : x.o.parent.2.1 = y.o.parent.2.1) (h6 : x.o.parent.2.2 = y.o.parent.2.2) (h7 : x.o.name = y.o.name) (h8 : x.o.dir = y.o.dir) (h10 : x.o.after.1 = y.o.after.1) (hf : x.o.after.2.1 ≠ y.o.after.2.1) : Calls Try.prog 17 #[x.val, y.val] w (SameE (x.o = y.o) w) := by
  have hB0 : Below w.heap.size w ((w.alloc (.cells x.cells.toArray 44)).alloc (.cells y.cells.toArray 44)) := ((Below.refl _ _).alloc (Nat.le_refl _) _).alloc (by simp) _
  have B0 := Lib.hid hB0
  have O0 := Lib.hid (two_ops w x y 44 44)
  have NE := Lib.hid (show ¬ x.o = y.o from fun e => hf (by rw [e]))
  clear hB0
  obtain ⟨⟨d0, d1, d2, d3, d4, d5, d6, d7, d8, d9, d10, d11, d12, d13, d14, d15, d16, d17⟩, c0, c1, c2, c3, c4, c5, c6, c7, c8, c9, c10, c11, c12, c13, c14, c15, c16, c17⟩ := O0.out
  rw [h0] at d0
  rw [h1] at d1
  rw [h2] at d2
  rw [h3] at d3
  rw [h4] at d4
  rw [h5] at d5
  rw [h6] at d6
  rw [h7] at d7
  rw [h8] at d8
  rw [h10] at d10
  clear d13 c13 d14 c14 d15 c15 d16 c16 d17 c17
  clear h0 h1 h2 h3 h4 h5 h6 h7 h8 h10
  have hd : (x.o.after.2.1 == y.o.after.2.1) = false := by rw [beq_eq_false_iff_ne]; exact hf
  unfold OpR.val
  go_enter Try.func17, Try.ntmps17
  go_wp2
  go_ret
  exact ⟨false, rfl, ⟨(fun h => nomatch h), fun h => absurd h NE.out⟩, B0.out⟩

set_option maxRecDepth 100000 in
set_option maxHeartbeats 4000000 in
theorem sameOp_no12 (x y : OpR) (w : World) (h0 : x.o.kind = y.o.kind) (h1 : x.o.node.1 = y.o.node.1) (h2 : x.o.node.2.1 = y.o.node.2.1) (h3 : x.o.node.2.2 = y.o.node.2.2) (h4 : x.o.parent.1 = y.o.parent.1) (h5 : x.o.parent.2.1 = y.o.parent.2.1) (h6 : x.o.parent.2.2 = y.o.parent.2.2) (h7 : x.o.name = y.o.name) (h8 : x.o.dir = y.o.dir) (h10 : x.o.after.1 = y.o.after.1) (h11 : x.o.after.2.1 = y.o.after.2.1) (hf : x.o.after.2.2 ≠ y.o.after.2.2) : Calls Try.prog 17 #[x.val, y.val] w (SameE (x.o = y.o) w) := by
  have hB0 : Below w.heap.size w ((w.alloc (.cells x.cells.toArray 44)).alloc (.cells y.cells.toArray 44)) := ((Below.refl _ _).alloc (Nat.le_refl _) _).alloc (by simp) _
  have B0 := Lib.hid hB0
  have O0 := Lib.hid (two_ops w x y 44 44)
  have NE := Lib.hid (show ¬ x.o = y.o from fun e => hf (by rw [e]))
  clear hB0
  obtain ⟨⟨d0, d1, d2, d3, d4, d5, d6, d7, d8, d9, d10, d11, d12, d13, d14, d15, d16, d17⟩, c0, c1, c2, c3, c4, c5, c6, c7, c8, c9, c10, c11, c12, c13, c14, c15, c16, c17⟩ := O0.out
  rw [h0] at d0
  rw [h1] at d1
  rw [h2] at d2
  rw [h3] at d3
  rw [h4] at d4
  rw [h5] at d5
  rw [h6] at d6
  rw [h7] at d7
  rw [h8] at d8
  rw [h10] at d10
  rw [h11] at d11
  clear d13 c13 d14 c14 d15 c15 d16 c16 d17 c17
  clear h0 h1 h2 h3 h4 h5 h6 h7 h8 h10 h11
  have hd : (x.o.after.2.2 == y.o.after.2.2) = false := by rw [beq_eq_false_iff_ne]; exact hf
  unfold OpR.val
  go_enter Try.func17, Try.ntmps17
  go_wp2
  go_ret
  exact ⟨false, rfl, ⟨(fun h => nomatch h), fun h => absurd h NE.out⟩, B0.out⟩

set_option maxRecDepth 100000 in
set_option maxHeartbeats 4000000 in
theorem sameOp_no13 (x y : OpR) (w : World) (h0 : x.o.kind = y.o.kind) (h1 : x.o.node.1 = y.o.node.1) (h2 : x.o.node.2.1 = y.o.node.2.1) (h3 : x.o.node.2.2 = y.o.node.2.2) (h4 : x.o.parent.1 = y.o.parent.1) (h5 : x.o.parent.2.1 = y.o.parent.2.1) (h6 : x.o.parent.2.2 = y.o.parent.2.2) (h7 : x.o.name = y.o.name) (h8 : x.o.dir = y.o.dir) (h10 : x.o.after.1 = y.o.after.1) (h11 : x.o.after.2.1 = y.o.after.2.1) (h12 : x.o.after.2.2 = y.o.after.2.2) (hf : x.o.elem.1 ≠ y.o.elem.1) : Calls Try.prog 17 #[x.val, y.val] w (SameE (x.o = y.o) w) := by
  have hB0 : Below w.heap.size w ((w.alloc (.cells x.cells.toArray 44)).alloc (.cells y.cells.toArray 44)) := ((Below.refl _ _).alloc (Nat.le_refl _) _).alloc (by simp) _
  have B0 := Lib.hid hB0
  have O0 := Lib.hid (two_ops w x y 44 44)
  have NE := Lib.hid (show ¬ x.o = y.o from fun e => hf (by rw [e]))
  clear hB0
  obtain ⟨⟨d0, d1, d2, d3, d4, d5, d6, d7, d8, d9, d10, d11, d12, d13, d14, d15, d16, d17⟩, c0, c1, c2, c3, c4, c5, c6, c7, c8, c9, c10, c11, c12, c13, c14, c15, c16, c17⟩ := O0.out
  rw [h0] at d0
  rw [h1] at d1
  rw [h2] at d2
  rw [h3] at d3
  rw [h4] at d4
  rw [h5] at d5
  rw [h6] at d6
  rw [h7] at d7
  rw [h8] at d8
  rw [h10] at d10
  rw [h11] at d11
  rw [h12] at d12
  clear d16 c16 d17 c17
  clear h0 h1 h2 h3 h4 h5 h6 h7 h8 h10 h11 h12
  have hd : (x.o.elem.1 == y.o.elem.1) = false := by rw [beq_eq_false_iff_ne]; exact hf
  unfold OpR.val
  go_enter Try.func17, Try.ntmps17
  go_wp2
  go_ret
  exact ⟨false, rfl, ⟨(fun h => nomatch h), fun h => absurd h NE.out⟩, B0.out⟩

set_option maxRecDepth 100000 in
set_option maxHeartbeats 4000000 in
theorem sameOp_no14 (x y : OpR) (w : World) (h0 : x.o.kind = y.o.kind) (h1 : x.o.node.1 = y.o.node.1) (h2 : x.o.node.2.1 = y.o.node.2.1) (h3 : x.o.node.2.2 = y.o.node.2.2) (h4 : x.o.parent.1 = y.o.parent.1) (h5 : x.o.parent.2.1 = y.o.parent.2.1) (h6 : x.o.parent.2.2 = y.o.parent.2.2) (h7 : x.o.name = y.o.name) (h8 : x.o.dir = y.o.dir) (h10 : x.o.after.1 = y.o.after.1) (h11 : x.o.after.2.1 = y.o.after.2.1) (h12 : x.o.after.2.2 = y.o.after.2.2) (h13 : x.o.elem.1 = y.o.elem.1) (hf : x.o.elem.2.1 ≠ y.o.elem.2.1) : Calls Try.prog 17 #[x.val, y.val] w (SameE (x.o = y.o) w) := by
  have hB0 : Below w.heap.size w ((w.alloc (.cells x.cells.toArray 44)).alloc (.cells y.cells.toArray 44)) := ((Below.refl _ _).alloc (Nat.le_refl _) _).alloc (by simp) _
  have B0 := Lib.hid hB0
  have O0 := Lib.hid (two_ops w x y 44 44)
  have NE := Lib.hid (show ¬ x.o = y.o from fun e => hf (by rw [e]))
  clear hB0
  obtain ⟨⟨d0, d1, d2, d3, d4, d5, d6, d7, d8, d9, d10, d11, d12, d13, d14, d15, d16, d17⟩, c0, c1, c2, c3, c4, c5, c6, c7, c8, c9, c10, c11, c12, c13, c14, c15, c16, c17⟩ := O0.out
  rw [h0] at d0
  rw [h1] at d1
  rw [h2] at d2
  rw [h3] at d3
  rw [h4] at d4
  rw [h5] at d5
  rw [h6] at d6
  rw [h7] at d7
  rw [h8] at d8
  rw [h10] at d10
  rw [h11] at d11
  rw [h12] at d12
  rw [h13] at d13
  clear d16 c16 d17 c17
  clear h0 h1 h2 h3 h4 h5 h6 h7 h8 h10 h11 h12 h13
  have hd : (x.o.elem.2.1 == y.o.elem.2.1) = false := by rw [beq_eq_false_iff_ne]; exact hf
  unfold OpR.val
  go_enter Try.func17, Try.ntmps17
  go_wp2
  go_ret
  exact ⟨false, rfl, ⟨(fun h => nomatch h), fun h => absurd h NE.out⟩, B0.out⟩

set_option maxRecDepth 100000 in
set_option maxHeartbeats 4000000 in
theorem sameOp_no15 (x y : OpR) (w : World) (h0 : x.o.kind = y.o.kind) (h1 : x.o.node.1 = y.o.node.1) (h2 : x.o.node.2.1 = y.o.node.2.1) (h3 : x.o.node.2.2 = y.o.node.2.2) (h4 : x.o.parent.1 = y.o.parent.1) (h5 : x.o.parent.2.1 = y.o.parent.2.1) (h6 : x.o.parent.2.2 = y.o.parent.2.2) (h7 : x.o.name = y.o.name) (h8 : x.o.dir = y.o.dir) (h10 : x.o.after.1 = y.o.after.1) (h11 : x.o.after.2.1 = y.o.after.2.1) (h12 : x.o.after.2.2 = y.o.after.2.2) (h13 : x.o.elem.1 = y.o.elem.1) (h14 : x.o.elem.2.1 = y.o.elem.2.1) (hf : x.o.elem.2.2 ≠ y.o.elem.2.2) : Calls Try.prog 17 #[x.val, y.val] w (SameE (x.o = y.o) w) := by
  have hB0 : Below w.heap.size w ((w.alloc (.cells x.cells.toArray 44)).alloc (.cells y.cells.toArray 44)) := ((Below.refl _ _).alloc (Nat.le_refl _) _).alloc (by simp) _
  have B0 := Lib.hid hB0
  have O0 := Lib.hid (two_ops w x y 44 44)
  have NE := Lib.hid (show ¬ x.o = y.o from fun e => hf (by rw [e]))
  clear hB0
  obtain ⟨⟨d0, d1, d2, d3, d4, d5, d6, d7, d8, d9, d10, d11, d12, d13, d14, d15, d16, d17⟩, c0, c1, c2, c3, c4, c5, c6, c7, c8, c9, c10, c11, c12, c13, c14, c15, c16, c17⟩ := O0.out
  rw [h0] at d0
  rw [h1] at d1
  rw [h2] at d2
  rw [h3] at d3
  rw [h4] at d4
  rw [h5] at d5
  rw [h6] at d6
  rw [h7] at d7
  rw [h8] at d8
  rw [h10] at d10
  rw [h11] at d11
  rw [h12] at d12
  rw [h13] at d13
  rw [h14] at d14
  clear d16 c16 d17 c17
  clear h0 h1 h2 h3 h4 h5 h6 h7 h8 h10 h11 h12 h13 h14
  have hd : (x.o.elem.2.2 == y.o.elem.2.2) = false := by rw [beq_eq_false_iff_ne]; exact hf
  unfold OpR.val
  go_enter Try.func17, Try.ntmps17
  go_wp2
  go_ret
  exact ⟨false, rfl, ⟨(fun h => nomatch h), fun h => absurd h NE.out⟩, B0.out⟩

set_option maxRecDepth 100000 in
set_option maxHeartbeats 4000000 in
theorem sameOp_no16 (x y : OpR) (w : World) (h0 : x.o.kind = y.o.kind) (h1 : x.o.node.1 = y.o.node.1) (h2 : x.o.node.2.1 = y.o.node.2.1) (h3 : x.o.node.2.2 = y.o.node.2.2) (h4 : x.o.parent.1 = y.o.parent.1) (h5 : x.o.parent.2.1 = y.o.parent.2.1) (h6 : x.o.parent.2.2 = y.o.parent.2.2) (h7 : x.o.name = y.o.name) (h8 : x.o.dir = y.o.dir) (h10 : x.o.after.1 = y.o.after.1) (h11 : x.o.after.2.1 = y.o.after.2.1) (h12 : x.o.after.2.2 = y.o.after.2.2) (h13 : x.o.elem.1 = y.o.elem.1) (h14 : x.o.elem.2.1 = y.o.elem.2.1) (h15 : x.o.elem.2.2 = y.o.elem.2.2) (hf : x.o.text ≠ y.o.text) : Calls Try.prog 17 #[x.val, y.val] w (SameE (x.o = y.o) w) := by
  have hB0 : Below w.heap.size w ((w.alloc (.cells x.cells.toArray 44)).alloc (.cells y.cells.toArray 44)) := ((Below.refl _ _).alloc (Nat.le_refl _) _).alloc (by simp) _
  have B0 := Lib.hid hB0
  have O0 := Lib.hid (two_ops w x y 44 44)
  have NE := Lib.hid (show ¬ x.o = y.o from fun e => hf (by rw [e]))
  clear hB0
  obtain ⟨⟨d0, d1, d2, d3, d4, d5, d6, d7, d8, d9, d10, d11, d12, d13, d14, d15, d16, d17⟩, c0, c1, c2, c3, c4, c5, c6, c7, c8, c9, c10, c11, c12, c13, c14, c15, c16, c17⟩ := O0.out
  rw [h0] at d0
  rw [h1] at d1
  rw [h2] at d2
  rw [h3] at d3
  rw [h4] at d4
  rw [h5] at d5
  rw [h6] at d6
  rw [h7] at d7
  rw [h8] at d8
  rw [h10] at d10
  rw [h11] at d11
  rw [h12] at d12
  rw [h13] at d13
  rw [h14] at d14
  rw [h15] at d15
  clear d17 c17
  clear h0 h1 h2 h3 h4 h5 h6 h7 h8 h10 h11 h12 h13 h14 h15
  have hd : ((bs x.o.text).toList == (bs y.o.text).toList) = false := by rw [bs_toList, bs_toList, beq_eq_false_iff_ne]; exact hf
  unfold OpR.val
  go_enter Try.func17, Try.ntmps17
  go_wp2
  go_ret
  exact ⟨false, rfl, ⟨(fun h => nomatch h), fun h => absurd h NE.out⟩, B0.out⟩

