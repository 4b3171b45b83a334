/-
  Layer 8, walks: operations that differ.
-/
import Derived.Test.YtphnimmhjnhajaaKW8e
namespace Go.Proofs.Ytphnimmhjnhajaa.W8
open Go.RowKit Go.PlainAid M8
set_option linter.unusedVariables false

set_option maxRecDepth 100000 in
set_option maxHeartbeats 4000000 in
theorem sameOp_no0 (x y : OpR) (w : World)  (hf : x.o.kind ≠ y.o.kind) : Calls Try.prog 17 #[x.val, y.val] w (SameE (x.o = y.o) w) := by
  have hB0 : Below w.heap.size w ((w.alloc (.cells x.cells.toArray 44)).alloc (.cells y.cells.toArray 44)) := ((Below.refl _ _).alloc (Nat.le_refl _) _).alloc (by simp) _
  have B0 := Lib.hid hB0
  have O0 := Lib.hid (two_ops w x y 44 44)
  have NE := Lib.hid (show ¬ x.o = y.o from fun e => hf (by rw [e]))
  clear hB0
  obtain ⟨⟨d0, d1, d2, d3, d4, d5, d6, d7, d8, d9, d10, d11, d12, d13, d14, d15, d16, d17⟩, c0, c1, c2, c3, c4, c5, c6, c7, c8, c9, c10, c11, c12, c13, c14, c15, c16, c17⟩ := O0.out
  clear d1 c1 d2 c2 d3 c3 d4 c4 d5 c5 d6 c6 d7 c7 d8 c8 d9 c9 d10 c10 d11 c11 d12 c12 d13 c13 d14 c14 d15 c15 d16 c16 d17 c17
  have hd : (x.o.kind == y.o.kind) = false := by rw [beq_eq_false_iff_ne]; exact hf
  unfold OpR.val
  go_enter Try.func17, Try.ntmps17
  go_wp2
  go_ret
  exact ⟨false, rfl, ⟨(fun h => nomatch h), fun h => absurd h NE.out⟩, B0.out⟩

set_option maxRecDepth 100000 in
set_option maxHeartbeats 4000000 in
theorem sameOp_no1 (x y : OpR) (w : World) (h0 : x.o.kind = y.o.kind) (hf : x.o.node.1 ≠ y.o.node.1) : Calls Try.prog 17 #[x.val, y.val] w (SameE (x.o = y.o) w) := by
  have hB0 : Below w.heap.size w ((w.alloc (.cells x.cells.toArray 44)).alloc (.cells y.cells.toArray 44)) := ((Below.refl _ _).alloc (Nat.le_refl _) _).alloc (by simp) _
  have B0 := Lib.hid hB0
  have O0 := Lib.hid (two_ops w x y 44 44)
  have NE := Lib.hid (show ¬ x.o = y.o from fun e => hf (by rw [e]))
  clear hB0
  obtain ⟨⟨d0, d1, d2, d3, d4, d5, d6, d7, d8, d9, d10, d11, d12, d13, d14, d15, d16, d17⟩, c0, c1, c2, c3, c4, c5, c6, c7, c8, c9, c10, c11, c12, c13, c14, c15, c16, c17⟩ := O0.out
  rw [h0] at d0
  clear d4 c4 d5 c5 d6 c6 d7 c7 d8 c8 d9 c9 d10 c10 d11 c11 d12 c12 d13 c13 d14 c14 d15 c15 d16 c16 d17 c17
  clear h0
  have hd : (x.o.node.1 == y.o.node.1) = false := by rw [beq_eq_false_iff_ne]; exact hf
  unfold OpR.val
  go_enter Try.func17, Try.ntmps17
  go_wp2
  go_ret
  exact ⟨false, rfl, ⟨(fun h => nomatch h), fun h => absurd h NE.out⟩, B0.out⟩

set_option maxRecDepth 100000 in
set_option maxHeartbeats 4000000 in
theorem sameOp_no2 (x y : OpR) (w : World) (h0 : x.o.kind = y.o.kind) (h1 : x.o.node.1 = y.o.node.1) (hf : x.o.node.2.1 ≠ y.o.node.2.1) : Calls Try.prog 17 #[x.val, y.val] w (SameE (x.o = y.o) w) := by
  have hB0 : Below w.heap.size w ((w.alloc (.cells x.cells.toArray 44)).alloc (.cells y.cells.toArray 44)) := ((Below.refl _ _).alloc (Nat.le_refl _) _).alloc (by simp) _
  have B0 := Lib.hid hB0
  have O0 := Lib.hid (two_ops w x y 44 44)
  have NE := Lib.hid (show ¬ x.o = y.o from fun e => hf (by rw [e]))
  clear hB0
  obtain ⟨⟨d0, d1, d2, d3, d4, d5, d6, d7, d8, d9, d10, d11, d12, d13, d14, d15, d16, d17⟩, c0, c1, c2, c3, c4, c5, c6, c7, c8, c9, c10, c11, c12, c13, c14, c15, c16, c17⟩ := O0.out
  rw [h0] at d0
  rw [h1] at d1
  clear d4 c4 d5 c5 d6 c6 d7 c7 d8 c8 d9 c9 d10 c10 d11 c11 d12 c12 d13 c13 d14 c14 d15 c15 d16 c16 d17 c17
  clear h0 h1
  have hd : (x.o.node.2.1 == y.o.node.2.1) = false := by rw [beq_eq_false_iff_ne]; exact hf
  unfold OpR.val
  go_enter Try.func17, Try.ntmps17
  go_wp2
  go_ret
  exact ⟨false, rfl, ⟨(fun h => nomatch h), fun h => absurd h NE.out⟩, B0.out⟩

set_option maxRecDepth 100000 in
set_option maxHeartbeats 4000000 in
theorem sameOp_no3 (x y : OpR) (w : World) (h0 : x.o.kind = y.o.kind) (h1 : x.o.node.1 = y.o.node.1) (h2 : x.o.node.2.1 = y.o.node.2.1) (hf : x.o.node.2.2 ≠ y.o.node.2.2) : Calls Try.prog 17 #[x.val, y.val] w (SameE (x.o = y.o) w) := by
  have hB0 : Below w.heap.size w ((w.alloc (.cells x.cells.toArray 44)).alloc (.cells y.cells.toArray 44)) := ((Below.refl _ _).alloc (Nat.le_refl _) _).alloc (by simp) _
  have B0 := Lib.hid hB0
  have O0 := Lib.hid (two_ops w x y 44 44)
  have NE := Lib.hid (show ¬ x.o = y.o from fun e => hf (by rw [e]))
  clear hB0
  obtain ⟨⟨d0, d1, d2, d3, d4, d5, d6, d7, d8, d9, d10, d11, d12, d13, d14, d15, d16, d17⟩, c0, c1, c2, c3, c4, c5, c6, c7, c8, c9, c10, c11, c12, c13, c14, c15, c16, c17⟩ := O0.out
  rw [h0] at d0
  rw [h1] at d1
  rw [h2] at d2
  clear d4 c4 d5 c5 d6 c6 d7 c7 d8 c8 d9 c9 d10 c10 d11 c11 d12 c12 d13 c13 d14 c14 d15 c15 d16 c16 d17 c17
  clear h0 h1 h2
  have hd : (x.o.node.2.2 == y.o.node.2.2) = false := by rw [beq_eq_false_iff_ne]; exact hf
  unfold OpR.val
  go_enter Try.func17, Try.ntmps17
  go_wp2
  go_ret
  exact ⟨false, rfl, ⟨(fun h => nomatch h), fun h => absurd h NE.out⟩, B0.out⟩

set_option maxRecDepth 100000 in
set_option maxHeartbeats 4000000 in
theorem sameOp_no4 (x y : OpR) (w : World) (h0 : x.o.kind = y.o.kind) (h1 : x.o.node.1 = y.o.node.1) (h2 : x.o.node.2.1 = y.o.node.2.1) (h3 : x.o.node.2.2 = y.o.node.2.2) (hf : x.o.parent.1 ≠ y.o.parent.1) : Calls Try.prog 17 #[x.val, y.val] w (SameE (x.o = y.o) w) := by
  have hB0 : Below w.heap.size w ((w.alloc (.cells x.cells.toArray 44)).alloc (.cells y.cells.toArray 44)) := ((Below.refl _ _).alloc (Nat.le_refl _) _).alloc (by simp) _
  have B0 := Lib.hid hB0
  have O0 := Lib.hid (two_ops w x y 44 44)
  have NE := Lib.hid (show ¬ x.o = y.o from fun e => hf (by rw [e]))
  clear hB0
  obtain ⟨⟨d0, d1, d2, d3, d4, d5, d6, d7, d8, d9, d10, d11, d12, d13, d14, d15, d16, d17⟩, c0, c1, c2, c3, c4, c5, c6, c7, c8, c9, c10, c11, c12, c13, c14, c15, c16, c17⟩ := O0.out
  rw [h0] at d0
  rw [h1] at d1
  rw [h2] at d2
  rw [h3] at d3
  clear d7 c7 d8 c8 d9 c9 d10 c10 d11 c11 d12 c12 d13 c13 d14 c14 d15 c15 d16 c16 d17 c17
  clear h0 h1 h2 h3
  have hd : (x.o.parent.1 == y.o.parent.1) = false := by rw [beq_eq_false_iff_ne]; exact hf
  unfold OpR.val
  go_enter Try.func17, Try.ntmps17
  go_wp2
  go_ret
  exact ⟨false, rfl, ⟨(fun h => nomatch h), fun h => absurd h NE.out⟩, B0.out⟩

set_option maxRecDepth 100000 in
set_option maxHeartbeats 4000000 in
theorem sameOp_no5 (x y : OpR) (w : World) (h0 : x.o.kind = y.o.kind) (h1 : x.o.node.1 = y.o.node.1) (h2 : x.o.node.2.1 = y.o.node.2.1) (h3 : x.o.node.2.2 = y.o.node.2.2) (h4 : x.o.parent.1 = y.o.parent.1) (hf : x.o.parent.2.1 ≠ y.o.parent.2.1) : Calls Try.prog 17 #[x.val, y.val] w (SameE (x.o = y.o) w) := by
  have hB0 : Below w.heap.size w ((w.alloc (.cells x.cells.toArray 44)).alloc (.cells y.cells.toArray 44)) := ((Below.refl _ _).alloc (Nat.le_refl _) _).alloc (by simp) _
  have B0 := Lib.hid hB0
  have O0 := Lib.hid (two_ops w x y 44 44)
  have NE := Lib.hid (show ¬ x.o = y.o from fun e => hf (by rw [e]))
  clear hB0
  obtain ⟨⟨d0, d1, d2, d3, d4, d5, d6, d7, d8, d9, d10, d11, d12, d13, d14, d15, d16, d17⟩, c0, c1, c2, c3, c4, c5, c6, c7, c8, c9, c10, c11, c12, c13, c14, c15, c16, c17⟩ := O0.out
  rw [h0] at d0
  rw [h1] at d1
  rw [h2] at d2
  rw [h3] at d3
  rw [h4] at d4
  clear d7 c7 d8 c8 d9 c9 d10 c10 d11 c11 d12 c12 d13 c13 d14 c14 d15 c15 d16 c16 d17 c17
  clear h0 h1 h2 h3 h4
  have hd : (x.o.parent.2.1 == y.o.parent.2.1) = false := by rw [beq_eq_false_iff_ne]; exact hf
  unfold OpR.val
  go_enter Try.func17, Try.ntmps17
  go_wp2
  go_ret
  exact ⟨false, rfl, ⟨(fun h => nomatch h), fun h => absurd h NE.out⟩, B0.out⟩

set_option maxRecDepth 100000 in
set_option maxHeartbeats 4000000 in
theorem sameOp_no6 (x y : OpR) (w : World) (h0 : x.o.kind = y.o.kind) (h1 : x.o.node.1 = y.o.node.1) (h2 : x.o.node.2.1 = y.o.node.2.1) (h3 : x.o.node.2.2 = y.o.node.2.2) (h4 : x.o.parent.1 = y.o.parent.1) (h5 : x.o.parent.2.1 = y.o.parent.2.1) (hf : x.o.parent.2.2 ≠ y.o.parent.2.2) : Calls Try.prog 17 #[x.val, y.val] w (SameE (x.o = y.o) w) := by
  have hB0 : Below w.heap.size w ((w.alloc (.cells x.cells.toArray 44)).alloc (.cells y.cells.toArray 44)) := ((Below.refl _ _).alloc (Nat.le_refl _) _).alloc (by simp) _
  have B0 := Lib.hid hB0
  have O0 := Lib.hid (two_ops w x y 44 44)
  have NE := Lib.hid (show ¬ x.o = y.o from fun e => hf (by rw [e]))
  clear hB0
  obtain ⟨⟨d0, d1, d2, d3, d4, d5, d6, d7, d8, d9, d10, d11, d12, d13, d14, d15, d16, d17⟩, c0, c1, c2, c3, c4, c5, c6, c7, c8, c9, c10, c11, c12, c13, c14, c15, c16, c17⟩ := O0.out
  rw [h0] at d0
  rw [h1] at d1
  rw [h2] at d2
  rw [h3] at d3
  rw [h4] at d4
  rw [h5] at d5
  clear d7 c7 d8 c8 d9 c9 d10 c10 d11 c11 d12 c12 d13 c13 d14 c14 d15 c15 d16 c16 d17 c17
  clear h0 h1 h2 h3 h4 h5
  have hd : (x.o.parent.2.2 == y.o.parent.2.2) = false := by rw [beq_eq_false_iff_ne]; exact hf
  unfold OpR.val
  go_enter Try.func17, Try.ntmps17
  go_wp2
  go_ret
  exact ⟨false, rfl, ⟨(fun h => nomatch h), fun h => absurd h NE.out⟩, B0.out⟩

set_option maxRecDepth 100000 in
set_option maxHeartbeats 4000000 in
theorem sameOp_no7 (x y : OpR) (w : World) (h0 : x.o.kind = y.o.kind) (h1 : x.o.node.1 = y.o.node.1) (h2 : x.o.node.2.1 = y.o.node.2.1) (h3 : x.o.node.2.2 = y.o.node.2.2) (h4 : x.o.parent.1 = y.o.parent.1) (h5 : x.o.parent.2.1 = y.o.parent.2.1) (h6 : x.o.parent.2.2 = y.o.parent.2.2) (hf : x.o.name ≠ y.o.name) : Calls Try.prog 17 #[x.val, y.val] w (SameE (x.o = y.o) w) := by
  have hB0 : Below w.heap.size w ((w.alloc (.cells x.cells.toArray 44)).alloc (.cells y.cells.toArray 44)) := ((Below.refl _ _).alloc (Nat.le_refl _) _).alloc (by simp) _
  have B0 := Lib.hid hB0
  have O0 := Lib.hid (two_ops w x y 44 44)
  have NE := Lib.hid (show ¬ x.o = y.o from fun e => hf (by rw [e]))
  clear hB0
  obtain ⟨⟨d0, d1, d2, d3, d4, d5, d6, d7, d8, d9, d10, d11, d12, d13, d14, d15, d16, d17⟩, c0, c1, c2, c3, c4, c5, c6, c7, c8, c9, c10, c11, c12, c13, c14, c15, c16, c17⟩ := O0.out
  rw [h0] at d0
  rw [h1] at d1
  rw [h2] at d2
  rw [h3] at d3
  rw [h4] at d4
  rw [h5] at d5
  rw [h6] at d6
  clear d8 c8 d9 c9 d10 c10 d11 c11 d12 c12 d13 c13 d14 c14 d15 c15 d16 c16 d17 c17
  clear h0 h1 h2 h3 h4 h5 h6
  have hd : ((bs x.o.name).toList == (bs y.o.name).toList) = false := by rw [bs_toList, bs_toList, beq_eq_false_iff_ne]; exact hf
  unfold OpR.val
  go_enter Try.func17, Try.ntmps17
  go_wp2
  go_ret
  exact ⟨false, rfl, ⟨(fun h => nomatch h), fun h => absurd h NE.out⟩, B0.out⟩

set_option maxRecDepth 100000 in
set_option maxHeartbeats 4000000 in
theorem sameOp_no8 (x y : OpR) (w : World) (h0 : x.o.kind = y.o.kind) (h1 : x.o.node.1 = y.o.node.1) (h2 : x.o.node.2.1 = y.o.node.2.1) (h3 : x.o.node.2.2 = y.o.node.2.2) (h4 : x.o.parent.1 = y.o.parent.1) (h5 : x.o.parent.2.1 = y.o.parent.2.1) (h6 : x.o.parent.2.2 = y.o.parent.2.2) (h7 : x.o.name = y.o.name) (hf : x.o.dir ≠ y.o.dir) : Calls Try.prog 17 #[x.val, y.val] w (SameE (x.o = y.o) w) := by
  have hB0 : Below w.heap.size w ((w.alloc (.cells x.cells.toArray 44)).alloc (.cells y.cells.toArray 44)) := ((Below.refl _ _).alloc (Nat.le_refl _) _).alloc (by simp) _
  have B0 := Lib.hid hB0
  have O0 := Lib.hid (two_ops w x y 44 44)
  have NE := Lib.hid (show ¬ x.o = y.o from fun e => hf (by rw [e]))
  clear hB0
  obtain ⟨⟨d0, d1, d2, d3, d4, d5, d6, d7, d8, d9, d10, d11, d12, d13, d14, d15, d16, d17⟩, c0, c1, c2, c3, c4, c5, c6, c7, c8, c9, c10, c11, c12, c13, c14, c15, c16, c17⟩ := O0.out
  rw [h0] at d0
  rw [h1] at d1
  rw [h2] at d2
  rw [h3] at d3
  rw [h4] at d4
  rw [h5] at d5
  rw [h6] at d6
  rw [h7] at d7
  clear d9 c9 d10 c10 d11 c11 d12 c12 d13 c13 d14 c14 d15 c15 d16 c16 d17 c17
  clear h0 h1 h2 h3 h4 h5 h6 h7
  have hd : (x.o.dir == y.o.dir) = false := by rw [beq_eq_false_iff_ne]; exact hf
  unfold OpR.val
  go_enter Try.func17, Try.ntmps17
  go_wp2
  go_ret
  exact ⟨false, rfl, ⟨(fun h => nomatch h), fun h => absurd h NE.out⟩, B0.out⟩

set_option maxRecDepth 100000 in
set_option maxHeartbeats 4000000 in
theorem sameOp_no10 (x y : OpR) (w : World) (h0 : x.o.kind = y.o.kind) (h1 : x.o.node.1 = y.o.node.1) (h2 : x.o.node.2.1 = y.o.node.2.1) (h3 : x.o.node.2.2 = y.o.node.2.2) (h4 : x.o.parent.1 = y.o.parent.1) (h5 : x.o.parent.2.1 = y.o.parent.2.1) (h6 : x.o.parent.2.2 = y.o.parent.2.2) (h7 : x.o.name = y.o.name) (h8 : x.o.dir = y.o.dir) (hf : x.o.after.1 ≠ y.o.after.1) : Calls Try.prog 17 #[x.val, y.val] w (SameE (x.o = y.o) w) := by
  have hB0 : Below w.heap.size w ((w.alloc (.cells x.cells.toArray 44)).alloc (.cells y.cells.toArray 44)) := ((Below.refl _ _).alloc (Nat.le_refl _) _).alloc (by simp) _
  have B0 := Lib.hid hB0
  have O0 := Lib.hid (two_ops w x y 44 44)
  have NE := Lib.hid (show ¬ x.o = y.o from fun e => hf (by rw [e]))
  clear hB0
  obtain ⟨⟨d0, d1, d2, d3, d4, d5, d6, d7, d8, d9, d10, d11, d12, d13, d14, d15, d16, d17⟩, c0, c1, c2, c3, c4, c5, c6, c7, c8, c9, c10, c11, c12, c13, c14, c15, c16, c17⟩ := O0.out
  rw [h0] at d0
  rw [h1] at d1
  rw [h2] at d2
  rw [h3] at d3
  rw [h4] at d4
  rw [h5] at d5
  rw [h6] at d6
  rw [h7] at d7
  rw [h8] at d8
  clear d13 c13 d14 c14 d15 c15 d16 c16 d17 c17
  clear h0 h1 h2 h3 h4 h5 h6 h7 h8
  have hd : (x.o.after.1 == y.o.after.1) = false := by rw [beq_eq_false_iff_ne]; exact hf
  unfold OpR.val
  go_enter Try.func17, Try.ntmps17
  go_wp2
  go_ret
  exact ⟨false, rfl, ⟨(fun h => nomatch h), fun h => absurd h NE.out⟩, B0.out⟩

