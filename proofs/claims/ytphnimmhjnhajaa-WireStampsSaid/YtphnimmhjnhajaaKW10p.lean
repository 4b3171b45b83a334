/-
  Layer 8, walks: First, awake.
-/
import Derived.Test.YtphnimmhjnhajaaKW10o
import Derived.Test.YtphnimmhjnhajaaKW8h
import Derived.Great.BuildSlice
namespace Go.Proofs.Ytphnimmhjnhajaa.W8
open Go.RowKit Go.PlainAid M8 V1
set_option linter.unusedVariables false

def firstO : Opn := { kind := 0, node := (1, 1, 0), parent := none3, name := [97], dir := true, dots := [], after := none3, elem := none3, text := [], elems := [] }
def firstR : OpR := ⟨firstO, none, 0, none, 0⟩
def firstG : Grp := ⟨1, 1, 1, [], 0, 0, [firstO]⟩
def firstB : List UInt8 := [1, 1, 1, 0, 0, 0, 1, 0, 1, 1, 0, 0, 0, 0, 1, 97, 1]
theorem first_check : check firstG = true := by decide +kernel
theorem first_deps : ∀ n ∈ firstG.deps, n ≤ 9223372036854775807 := fun n hn => by cases hn
theorem first_spell : spell firstG = firstB := by decide +kernel
theorem first_decode : M8.decode firstB = some firstG := by rw [← first_spell]; exact decode_spell first_check first_deps
theorem first_more : M8.decode (firstB ++ [120]) = none := by
  cases hd : M8.decode (firstB ++ [120]) with
  | none => rfl
  | some g =>
    obtain ⟨h1, h2, h3⟩ := decode_inv hd
    have h4 := cGrp.put g [] h3
    rw [List.append_nil, ← h1] at h4
    have h5 := cGrp.put firstG [120] (check_dom first_check first_deps)
    rw [first_spell, h4] at h5
    injection h5 with h5
    injection h5 with _ h5
    cases h5
theorem two_one : (#[Value.int .i64 1, Value.int .i64 1].all (·.oneCell')) = true := all_oneCell_toArray (cs := [Value.int .i64 1, Value.int .i64 1]) (fun v hv => by simp at hv; rw [hv]; rfl)
def FirstE (w : World) (e : Ending) (w' : World) : Prop := ∃ F : GrpR, e = .returned (.agg F.cells.toArray) ∧ GrpAt w' F ∧ F.g = firstG ∧ Fit F ∧ Below w.heap.size w w'
def firstR2 (q : Nat) : GrpR := ⟨1, 1, 1, [], 0, 0, [firstR], none, 0, some ⟨q, 0, none⟩, 1⟩
theorem first_fit (q : Nat) : Fit (firstR2 q) := ⟨Nat.zero_le _, fun _ x hx => by rw [List.mem_singleton.1 (show x ∈ [firstR] from hx)]; exact ⟨by decide, by decide⟩⟩
theorem first_at {w : World} {q : Nat} {t : TypeId} (h : w.heap[q]? = some (.cells firstR.cells.toArray t (0, 0))) : GrpAt w (firstR2 q) := by
  have h2 : ([firstR].flatMap OpR.cells) = firstR.cells := by simp
  have hrd : Rd w (some ⟨q, 0, none⟩) ([firstR].flatMap OpR.cells) := by
    rw [h2]
    refine .inr ⟨q, 0, rfl, (Array.getElem?_eq_some_iff.1 h).1, fun j hj => ?_⟩
    rw [Nat.zero_add, cell_of_row w q j _ t (0, 0) h]
    simp
  refine ⟨.inl rfl, hrd, ?_, ⟨Nat.le_refl _, by simp [firstR2]⟩, ⟨Nat.le_refl _, by simp [firstR2]⟩, ?_, ?_, ?_, ?_, ?_, ?_⟩
  · intro x hx
    rw [List.mem_singleton.1 (show x ∈ [firstR] from hx)]
    refine ⟨.inl rfl, .inl rfl, ⟨Nat.le_refl _, by decide⟩, ⟨Nat.le_refl _, by decide⟩, ?_, ?_, ?_, ?_, ?_, ?_, ?_, by decide, by decide⟩
    all_goals first | (intro s hs; cases hs) | (refine ⟨?_, ?_, ?_⟩ <;> (constructor <;> decide)) | (constructor <;> decide)
  all_goals first | (intro z hz; cases hz) | (simp [firstR2, in64])

set_option maxRecDepth 100000 in
set_option maxHeartbeats 16000000 in
theorem first_any (w : World) : Calls Try.prog 13 #[] w (FirstE w) := by
  have hB0 := heap_alloc_new w (.cells noGrp.toArray 27)
  have hO0 : Only w.heap.size w (w.alloc (.cells noGrp.toArray 27)) := (Only.refl _ w).alloc _
  have hs0 : (w.alloc (.cells noGrp.toArray 27)).heap.size = w.heap.size + 1 := by simp
  obtain ⟨W0, hW0⟩ : ∃ W0, w.alloc (.cells noGrp.toArray 27) = W0 := ⟨_, rfl⟩
  rw [hW0] at hB0 hO0 hs0
  have hW0' : w.alloc (.cells #[.int .i64 0, .int .i64 0, .int .i64 0, .slice none 0 0, .int .i64 0, .int .i64 0, .slice none 0 0] 27) = W0 := hW0
  have hB1 := (Below.heap_alloc W0 (.cells #[.int .i64 1, .int .i64 1] 23) w.heap.size (by omega)).trans hB0
  have hO1 := hO0.alloc (.cells #[.int .i64 1, .int .i64 1] 23)
  have hT := Two.new W0 23 1 1
  have hs1 : (W0.alloc (.cells #[.int .i64 1, .int .i64 1] 23)).heap.size = w.heap.size + 2 := by simp [hs0]
  obtain ⟨W1, hW1⟩ : ∃ W1, W0.alloc (.cells #[.int .i64 1, .int .i64 1] 23) = W1 := ⟨_, rfl⟩
  rw [hW1] at hB1 hO1 hT hs1
  obtain ⟨t0, t1⟩ := hT.cells
  have hB2 := (Below.heap_alloc W1 (.cells firstR.cells.toArray 44) w.heap.size (by omega)).trans hB1
  have hO2 := hO1.alloc (.cells firstR.cells.toArray 44)
  have hC2 := heap_alloc_new W1 (.cells firstR.cells.toArray 44)
  have hne : w.heap.size ≠ W1.heap.size := by omega
  obtain ⟨W2, hW2⟩ : ∃ W2, W1.alloc (.cells firstR.cells.toArray 44) = W2 := ⟨_, rfl⟩
  rw [hW2] at hB2 hO2 hC2
  have h3 := Only.sets (b := w.heap.size) (firstR2 W1.heap.size).cells 0 W2
  have hC3 := h3.box hC2 (Ne.symm hne)
  have hO3 := hO2.plus h3 (Nat.le_refl _)
  have hth := there_block hB2
  rw [nogrp_size (firstR2 W1.heap.size)] at hth
  have hrg := World.rangeAt_setCells_same W2 w.heap.size 0 (firstR2 W1.heap.size).cells hth
  obtain ⟨W3, hW3⟩ : ∃ W3, W2.setCells w.heap.size 0 (firstR2 W1.heap.size).cells = W3 := ⟨_, rfl⟩
  rw [hW3] at hC3 hO3 hrg
  have HEND : Hid (FirstE w (.returned (.agg (firstR2 W1.heap.size).cells.toArray)) W3) := ⟨firstR2 W1.heap.size, rfl, first_at hC3, rfl, first_fit _, hO3.below (Nat.le_refl _)⟩
  have HRG := Lib.hid hrg
  have HB2 := Lib.hid hB2
  have HW3 := Lib.hid hW3
  have HW2 := Lib.hid hW2
  have HW1 := Lib.hid hW1
  clear hB0 hO0 hs0 hW0 hB1 hO1 hT hs1 hB2 hO2 hC2 hne h3 hC3 hO3 hth hrg hW3 hW2 hW1
  go_enter Try.func13, Try.ntmps13
  go_wp2_with (first | ((with_reducible refine wpList_store_fresh ?_ 23 (.tmp 1) (.tmp 2) ?_ _ #[.int .i64 1, .int .i64 1] ?_ ?_ ?_ ?_ ?_ ?_); exact rfl; exact rfl; exact rfl; exact rfl; kernel_rfl; exact rfl; exact two_one; rw [HW1.out]) | ((with_reducible refine build_op ?_ (.tmp 6) ?_ firstR ?_ ?_); exact rfl; exact rfl; exact rfl; rw [HW2.out]) | ((with_reducible refine st_grp ?_ (.tmp 0) (.tmp 8) ?_ w.heap.size (firstR2 W1.heap.size) ?_ ?_ HB2.out ?_); exact rfl; exact rfl; exact rfl; exact rfl; rw [HW3.out]))
  exact bodyPost_ret (results_row rfl _ _ _ w.heap.size 0 (firstR2 W1.heap.size).cells _ rfl HRG.out Try.underlying27 rfl (zero_of_info info_grp).2) rfl HEND.out


end Go.Proofs.Ytphnimmhjnhajaa.W8

