/-
  Layer 5: how ids stand to one another, by the program and by the document.
-/
import Derived.Test.YticiolhfoeenmaaDoorS5q
namespace Go.Proofs.YticiolhfoeenmaaDoor.S5
open Go.RowKit Go.PlainAid Go.Shelf M5
set_option linter.unusedVariables false

/-- Two boxed ids, and what is read of the variables, while calls are made. -/
def Two (w : World) (b : Nat) (t r i t' r' i' : Int) (a : World) : Prop :=
  Trio a b 25 t r i ∧ Trio a (b + 1) 25 t' r' i' ∧ Env a ∧ Below w.heap.size w a
/-- Their cells. -/
def Six (b : Nat) (t r i t' r' i' : Int) (a : World) : Prop :=
  a.cell? ⟨b, 0, none⟩ = some (.int .i64 t) ∧ a.cell? ⟨b, 1, none⟩ = some (.int .i64 r) ∧ a.cell? ⟨b, 2, none⟩ = some (.int .i64 i) ∧ a.cell? ⟨b + 1, 0, none⟩ = some (.int .i64 t') ∧ a.cell? ⟨b + 1, 1, none⟩ = some (.int .i64 r') ∧ a.cell? ⟨b + 1, 2, none⟩ = some (.int .i64 i')
theorem Two.six {w : World} {b : Nat} {t r i t' r' i' : Int} {a : World} (h : Two w b t r i t' r' i' a) : Six b t r i t' r' i' a :=
  ⟨h.1.cells.1, h.1.cells.2.1, h.1.cells.2.2, h.2.1.cells.1, h.2.1.cells.2.1, h.2.1.cells.2.2⟩
theorem Two.keep {w : World} {b : Nat} {t r i t' r' i' : Int} {a a' : World} (h : Two w b t r i t' r' i' a) (hb : Below a.heap.size a a') : Two w b t r i t' r' i' a' :=
  ⟨h.1.keep hb, h.2.1.keep hb, h.2.2.1.keep hb, chain h.2.2.2 hb⟩
theorem Two.call {w : World} {b : Nat} {t r i t' r' i' : Int} {a : World} {f : FuncId} {args : Array Value} {R : Ending} (hc : Calls Tryd.prog f args a fun e w' => e = R ∧ Below a.heap.size a w') (h : Two w b t r i t' r' i' a) :
    Calls Tryd.prog f args a fun e w' => e = R ∧ Six b t r i t' r' i' w' ∧ Two w b t r i t' r' i' w' :=
  hc.mono fun e w' ⟨he, hb⟩ => ⟨he, (h.keep hb).six, h.keep hb⟩
theorem Two.awake {w : World} {b : Nat} {t r i t' r' i' : Int} {a : World} (h : Two w b t r i t' r' i' a) :
    Calls Tryd.prog 10 #[] a fun e w' => e = .returned (.bool true) ∧ Six b t r i t' r' i' w' ∧ Two w b t r i t' r' i' w' := Two.call (awake_any a h.2.2.1) h

set_option maxRecDepth 100000 in
set_option maxHeartbeats 4000000 in
theorem lawCmps (w : World) (he : Env w) (t r i t' r' i' : Int) :
    Calls Tryd.prog 3 #[.agg #[.int .i64 t, .int .i64 r, .int .i64 i], .agg #[.int .i64 t', .int .i64 r', .int .i64 i']] w fun e w' => e = .returned (.bool true) ∧ Below w.heap.size w w' := by
  have hk : Two w w.heap.size t r i t' r' i' ((w.alloc (.cells #[.int .i64 t, .int .i64 r, .int .i64 i] 25)).alloc (.cells #[.int .i64 t', .int .i64 r', .int .i64 i'] 25)) := by
    have h0 : Trio (w.alloc (.cells #[.int .i64 t, .int .i64 r, .int .i64 i] 25)) w.heap.size 25 t r i := heap_alloc_new w _
    have h1 : Trio ((w.alloc (.cells #[.int .i64 t, .int .i64 r, .int .i64 i] 25)).alloc (.cells #[.int .i64 t', .int .i64 r', .int .i64 i'] 25)) (w.alloc (.cells #[.int .i64 t, .int .i64 r, .int .i64 i] 25)).heap.size 25 t' r' i' := heap_alloc_new _ _
    refine ⟨h0.keep (new1 _ _), ?_, he.keep (new2 w _ _), new2 w _ _⟩
    rw [show (w.alloc (.cells #[.int .i64 t, .int .i64 r, .int .i64 i] 25)).heap.size = w.heap.size + 1 by simp] at h1
    exact h1
  have hk2 := hk.keep ((Below.refl _ _).drew)
  clear he hk
  go_enter Tryd.func3, Tryd.ntmps3
  go_wp2
  go_region_held3 (fun a => a.cell? ⟨w.heap.size, 0, none⟩ = some (.int .i64 t) ∧ a.cell? ⟨w.heap.size, 1, none⟩ = some (.int .i64 r) ∧ a.cell? ⟨w.heap.size, 2, none⟩ = some (.int .i64 i) ∧ a.cell? ⟨w.heap.size + 1, 0, none⟩ = some (.int .i64 t') ∧ a.cell? ⟨w.heap.size + 1, 1, none⟩ = some (.int .i64 r') ∧ a.cell? ⟨w.heap.size + 1, 2, none⟩ = some (.int .i64 i') ∧ Two w w.heap.size t r i t' r' i' a)
    (first | go_keep)
    (first
      | (go_at_call 10; (with_reducible refine (Two.awake (w := w) (b := w.heap.size) (t := t) (r := r) (i := i) (t' := t') (r' := r') (i' := i') ?h1).mono ?_); (case h1 => first | assumption | exact (‹_ ∧ _ ∧ _ ∧ _ ∧ _ ∧ _ ∧ Two w w.heap.size t r i t' r' i' _›).2.2.2.2.2.2); rintro e w1 ⟨rfl, ⟨k0, k1, k2, k3, k4, k5⟩, k6⟩)
      | (go_at_call 11; (with_reducible refine (Two.call (w := w) (b := w.heap.size) (t := t) (r := r) (i := i) (t' := t') (r' := r') (i' := i') (cmp_any _ _ _ _ _) ?h1).mono ?_); (case h1 => first | assumption | exact (‹_ ∧ _ ∧ _ ∧ _ ∧ _ ∧ _ ∧ Two w w.heap.size t r i t' r' i' _›).2.2.2.2.2.2); rintro e w2 ⟨rfl, ⟨k0, k1, k2, k3, k4, k5⟩, k6⟩)
      | (go_at_call 12; (with_reducible refine (Two.call (w := w) (b := w.heap.size) (t := t) (r := r) (i := i) (t' := t') (r' := r') (i' := i') (refCmp_any _ _ _ _ _) ?h1).mono ?_); (case h1 => first | assumption | exact (‹_ ∧ _ ∧ _ ∧ _ ∧ _ ∧ _ ∧ Two w w.heap.size t r i t' r' i' _›).2.2.2.2.2.2); rintro e w3 ⟨rfl, ⟨k0, k1, k2, k3, k4, k5⟩, k6⟩)
      | (go_at_call 13; (with_reducible refine (Two.call (w := w) (b := w.heap.size) (t := t) (r := r) (i := i) (t' := t') (r' := r') (i' := i') (cmpId_any _ _ _ _ _ _ _) ?h1).mono ?_); (case h1 => first | assumption | exact (‹_ ∧ _ ∧ _ ∧ _ ∧ _ ∧ _ ∧ Two w w.heap.size t r i t' r' i' _›).2.2.2.2.2.2); rintro e w4 ⟨rfl, ⟨k0, k1, k2, k3, k4, k5⟩, k6⟩)
      | (go_at_call 14; (with_reducible refine (Two.call (w := w) (b := w.heap.size) (t := t) (r := r) (i := i) (t' := t') (r' := r') (i' := i') (refCmpId_any _ _ _ _ _ _ _) ?h1).mono ?_); (case h1 => first | assumption | exact (‹_ ∧ _ ∧ _ ∧ _ ∧ _ ∧ _ ∧ Two w w.heap.size t r i t' r' i' _›).2.2.2.2.2.2); rintro e w5 ⟨rfl, ⟨k0, k1, k2, k3, k4, k5⟩, k6⟩)
      | (go_at_call 15; (with_reducible refine (Two.call (w := w) (b := w.heap.size) (t := t) (r := r) (i := i) (t' := t') (r' := r') (i' := i') (right_any _ _ _) ?h1).mono ?_); (case h1 => first | assumption | exact (‹_ ∧ _ ∧ _ ∧ _ ∧ _ ∧ _ ∧ Two w w.heap.size t r i t' r' i' _›).2.2.2.2.2.2); rintro e w6 ⟨rfl, ⟨k0, k1, k2, k3, k4, k5⟩, k6⟩)
      | (go_at_call 16; (with_reducible refine (Two.call (w := w) (b := w.heap.size) (t := t) (r := r) (i := i) (t' := t') (r' := r') (i' := i') (refRight_any _ _ _) ?h1).mono ?_); (case h1 => first | assumption | exact (‹_ ∧ _ ∧ _ ∧ _ ∧ _ ∧ _ ∧ Two w w.heap.size t r i t' r' i' _›).2.2.2.2.2.2); rintro e w7 ⟨rfl, ⟨k0, k1, k2, k3, k4, k5⟩, k6⟩)
      | (go_at_call 17; (with_reducible refine (Two.call (w := w) (b := w.heap.size) (t := t) (r := r) (i := i) (t' := t') (r' := r') (i' := i') (rightId_any _ _ _ _) ?h1).mono ?_); (case h1 => first | assumption | exact (‹_ ∧ _ ∧ _ ∧ _ ∧ _ ∧ _ ∧ Two w w.heap.size t r i t' r' i' _›).2.2.2.2.2.2); rintro e w8 ⟨rfl, ⟨k0, k1, k2, k3, k4, k5⟩, k6⟩)
      | (go_at_call 18; (with_reducible refine (Two.call (w := w) (b := w.heap.size) (t := t) (r := r) (i := i) (t' := t') (r' := r') (i' := i') (refRightId_any _ _ _ _) ?h1).mono ?_); (case h1 => first | assumption | exact (‹_ ∧ _ ∧ _ ∧ _ ∧ _ ∧ _ ∧ Two w w.heap.size t r i t' r' i' _›).2.2.2.2.2.2); rintro e w9 ⟨rfl, ⟨k0, k1, k2, k3, k4, k5⟩, k6⟩))
  have hbf := k6.2.2.2
  clear k0 k1 k2 k3 k4 k5 k6 hk2
  go_wp2
  go_ret
  exact ⟨rfl, hbf⟩

end Go.Proofs.YticiolhfoeenmaaDoor.S5
