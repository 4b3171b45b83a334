/-
  Layer 5: ids stand in one order.
-/
import Derived.Test.YticiolhfoeenmaaDoorS5r
namespace Go.Proofs.YticiolhfoeenmaaDoor.S5
open Go.RowKit Go.PlainAid Go.Shelf M5
set_option linter.unusedVariables false

/-- Three boxed ids, and what is read of the variables, while calls are made. -/
def Three (w : World) (b : Nat) (t r i t' r' i' t'' r'' i'' : Int) (a : World) : Prop :=
  Trio a b 25 t r i ∧ Trio a (b + 1) 25 t' r' i' ∧ Trio a (b + 1 + 1) 25 t'' r'' i'' ∧ Env a ∧ Below w.heap.size w a
/-- Their cells. -/
def Nine (b : Nat) (t r i t' r' i' t'' r'' i'' : Int) (a : World) : Prop :=
  a.cell? ⟨b, 0, none⟩ = some (.int .i64 t) ∧ a.cell? ⟨b, 1, none⟩ = some (.int .i64 r) ∧ a.cell? ⟨b, 2, none⟩ = some (.int .i64 i) ∧ a.cell? ⟨b + 1, 0, none⟩ = some (.int .i64 t') ∧ a.cell? ⟨b + 1, 1, none⟩ = some (.int .i64 r') ∧ a.cell? ⟨b + 1, 2, none⟩ = some (.int .i64 i') ∧ a.cell? ⟨b + 1 + 1, 0, none⟩ = some (.int .i64 t'') ∧ a.cell? ⟨b + 1 + 1, 1, none⟩ = some (.int .i64 r'') ∧ a.cell? ⟨b + 1 + 1, 2, none⟩ = some (.int .i64 i'')
theorem Three.nine {w : World} {b : Nat} {t r i t' r' i' t'' r'' i'' : Int} {a : World} (h : Three w b t r i t' r' i' t'' r'' i'' a) : Nine b t r i t' r' i' t'' r'' i'' a :=
  ⟨h.1.cells.1, h.1.cells.2.1, h.1.cells.2.2, h.2.1.cells.1, h.2.1.cells.2.1, h.2.1.cells.2.2, h.2.2.1.cells.1, h.2.2.1.cells.2.1, h.2.2.1.cells.2.2⟩
theorem Three.keep {w : World} {b : Nat} {t r i t' r' i' t'' r'' i'' : Int} {a a' : World} (h : Three w b t r i t' r' i' t'' r'' i'' a) (hb : Below a.heap.size a a') : Three w b t r i t' r' i' t'' r'' i'' a' :=
  ⟨h.1.keep hb, h.2.1.keep hb, h.2.2.1.keep hb, h.2.2.2.1.keep hb, chain h.2.2.2.2 hb⟩
theorem Three.call {w : World} {b : Nat} {t r i t' r' i' t'' r'' i'' : Int} {a : World} {f : FuncId} {args : Array Value} {R : Ending} (hc : Calls Tryd.prog f args a fun e w' => e = R ∧ Below a.heap.size a w') (h : Three w b t r i t' r' i' t'' r'' i'' a) :
    Calls Tryd.prog f args a fun e w' => e = R ∧ Nine b t r i t' r' i' t'' r'' i'' w' ∧ Three w b t r i t' r' i' t'' r'' i'' w' :=
  hc.mono fun e w' ⟨he, hb⟩ => ⟨he, (h.keep hb).nine, h.keep hb⟩

set_option maxRecDepth 100000 in
set_option maxHeartbeats 4000000 in
theorem lawOrder (w : World) (he : Env w) (t r i t' r' i' t'' r'' i'' : Int) :
    Calls Tryd.prog 6 #[.agg #[.int .i64 t, .int .i64 r, .int .i64 i], .agg #[.int .i64 t', .int .i64 r', .int .i64 i'], .agg #[.int .i64 t'', .int .i64 r'', .int .i64 i'']] w fun e w' => e = .returned (.bool true) ∧ Below w.heap.size w w' := by
  have hk : Three w w.heap.size t r i t' r' i' t'' r'' i'' (((w.alloc (.cells #[.int .i64 t, .int .i64 r, .int .i64 i] 25)).alloc (.cells #[.int .i64 t', .int .i64 r', .int .i64 i'] 25)).alloc (.cells #[.int .i64 t'', .int .i64 r'', .int .i64 i''] 25)) := by
    have h0 : Trio (w.alloc (.cells #[.int .i64 t, .int .i64 r, .int .i64 i] 25)) w.heap.size 25 t r i := heap_alloc_new w _
    have h1 : Trio ((w.alloc (.cells #[.int .i64 t, .int .i64 r, .int .i64 i] 25)).alloc (.cells #[.int .i64 t', .int .i64 r', .int .i64 i'] 25)) (w.alloc (.cells #[.int .i64 t, .int .i64 r, .int .i64 i] 25)).heap.size 25 t' r' i' := heap_alloc_new _ _
    have h2 : Trio (((w.alloc (.cells #[.int .i64 t, .int .i64 r, .int .i64 i] 25)).alloc (.cells #[.int .i64 t', .int .i64 r', .int .i64 i'] 25)).alloc (.cells #[.int .i64 t'', .int .i64 r'', .int .i64 i''] 25)) ((w.alloc (.cells #[.int .i64 t, .int .i64 r, .int .i64 i] 25)).alloc (.cells #[.int .i64 t', .int .i64 r', .int .i64 i'] 25)).heap.size 25 t'' r'' i'' := heap_alloc_new _ _
    rw [show (w.alloc (.cells #[.int .i64 t, .int .i64 r, .int .i64 i] 25)).heap.size = w.heap.size + 1 by simp] at h1
    rw [show ((w.alloc (.cells #[.int .i64 t, .int .i64 r, .int .i64 i] 25)).alloc (.cells #[.int .i64 t', .int .i64 r', .int .i64 i'] 25)).heap.size = w.heap.size + 1 + 1 by simp] at h2
    have n3 := chain (new2 w (.cells #[.int .i64 t, .int .i64 r, .int .i64 i] 25) (.cells #[.int .i64 t', .int .i64 r', .int .i64 i'] 25)) (new1 _ (.cells #[.int .i64 t'', .int .i64 r'', .int .i64 i''] 25))
    exact ⟨(h0.keep (new1 _ _)).keep (new1 _ _), h1.keep (new1 _ _), h2, he.keep n3, n3⟩
  have HK := Lib.hid hk
  clear he hk
  go_enter Tryd.func6, Tryd.ntmps6
  go_wp2_with fail
  refine (Three.call (awake_any _ HK.out.2.2.2.1) HK.out).mono ?_
  rintro e w1 ⟨rfl, ⟨k0, k1, k2, k3, k4, k5, k6, k7, k8⟩, k9⟩
  have hk2 := k9.keep ((Below.refl _ _).drew)
  have H9 := Lib.hid k9
  clear k9 HK
  go_wp2
  go_region_held3 (fun a => a.cell? ⟨w.heap.size, 0, none⟩ = some (.int .i64 t) ∧ a.cell? ⟨w.heap.size, 1, none⟩ = some (.int .i64 r) ∧ a.cell? ⟨w.heap.size, 2, none⟩ = some (.int .i64 i) ∧ a.cell? ⟨w.heap.size + 1, 0, none⟩ = some (.int .i64 t') ∧ a.cell? ⟨w.heap.size + 1, 1, none⟩ = some (.int .i64 r') ∧ a.cell? ⟨w.heap.size + 1, 2, none⟩ = some (.int .i64 i') ∧ a.cell? ⟨w.heap.size + 1 + 1, 0, none⟩ = some (.int .i64 t'') ∧ a.cell? ⟨w.heap.size + 1 + 1, 1, none⟩ = some (.int .i64 r'') ∧ a.cell? ⟨w.heap.size + 1 + 1, 2, none⟩ = some (.int .i64 i'') ∧ Three w w.heap.size t r i t' r' i' t'' r'' i'' a)
    (first | go_keep)
    (first
      | (go_at_call 13; (with_reducible refine (Three.call (w := w) (b := w.heap.size) (t := t) (r := r) (i := i) (t' := t') (r' := r') (i' := i') (t'' := t'') (r'' := r'') (i'' := i'') (cmpId_any _ _ _ _ _ _ _) ?h1).mono ?_); (case h1 => (first | assumption | exact (‹_ ∧ _ ∧ _ ∧ _ ∧ _ ∧ _ ∧ _ ∧ _ ∧ _ ∧ Three w w.heap.size t r i t' r' i' t'' r'' i'' _›).2.2.2.2.2.2.2.2.2)); rintro e w2 ⟨rfl, ⟨k0, k1, k2, k3, k4, k5, k6, k7, k8⟩, k9⟩))
  clear k0 k1 k2 k3 k4 k5 k6 k7 k8 hk2 H9
  have hz0 := cmpD_zero t r i t' r' i'
  have hrng := cmpD_rng t r i t' r' i'
  have htn := cmpD_turn t' r' i' t r i
  have htr := @cmpD_trans t r i t' r' i' t'' r'' i''
  obtain ⟨x, hx⟩ : ∃ x, cmpD t r i t' r' i' = x := ⟨_, rfl⟩
  obtain ⟨y, hy⟩ : ∃ y, cmpD t' r' i' t'' r'' i'' = y := ⟨_, rfl⟩
  obtain ⟨z, hz⟩ : ∃ z, cmpD t r i t'' r'' i'' = z := ⟨_, rfl⟩
  rw [hx] at hz0 hrng htn
  rw [hx, hy, hz] at htr
  rw [hx, hy, hz]
  have HTN := Lib.hid htn
  have K9 := Lib.hid k9
  obtain ⟨hr1, hr2⟩ := hrng
  clear hx hy hz htn k9
  have hfin : 0 < x ∨ 0 < y ∨ z ≤ 0 := by
    by_cases h1 : 0 < x
    · exact .inl h1
    by_cases h2 : 0 < y
    · exact .inr (.inl h2)
    exact .inr (.inr (htr (by omega) (by omega)))
  clear htr
  obtain ⟨c0, c1, c2⟩ := K9.out.1.cells
  obtain ⟨c3, c4, c5⟩ := K9.out.2.1.cells
  by_cases heq : t = t' ∧ r = r' ∧ i = i'
  · have hx0 : x = 0 := hz0.2 heq
    obtain ⟨rfl, rfl, rfl⟩ := heq
    subst hx0
    clear hz0
    go_wp2_with fail
    refine (Three.call (cmpId_any _ _ _ _ _ _ _) K9.out).mono ?_
    rintro e w3 ⟨rfl, ⟨k0, k1, k2, k3, k4, k5, k6, k7, k8⟩, k9⟩
    rw [HTN.out]
    have hbf := k9.2.2.2.2
    clear k9 k6 k7 k8
    rcases hfin with h | h | h
    · omega
    · go_wp2
      go_ret
      exact ⟨rfl, hbf⟩
    · by_cases hy : 0 < y
      all_goals
        go_wp2
        go_ret
        exact ⟨rfl, hbf⟩
  · have hx0 : x ≠ 0 := fun h => heq (hz0.1 h)
    have hb0 : (x == 0) = false := by simpa using hx0
    go_wp2_with fail
    refine (Three.call (cmpId_any _ _ _ _ _ _ _) K9.out).mono ?_
    rintro e w3 ⟨rfl, ⟨k0, k1, k2, k3, k4, k5, k6, k7, k8⟩, k9⟩
    rw [HTN.out]
    have hbf := k9.2.2.2.2
    clear k9 k6 k7 k8 hz0
    rcases hfin with h | h | h
    all_goals go_wp2
    all_goals first | (go_ret; exact ⟨rfl, hbf⟩) | (exfalso; omega)

end Go.Proofs.YticiolhfoeenmaaDoor.S5
