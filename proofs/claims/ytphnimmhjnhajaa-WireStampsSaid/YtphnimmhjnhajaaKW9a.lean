/-
  Layer 8, walks of the program: which ids are ahead.
-/
import Derived.Test.YtphnimmhjnhajaaKW8b
import Derived.Test.YtphnimmhjnhajaaKA
import Derived.Test.YtphnimmhjnhajaaKB
namespace Go.Proofs.Ytphnimmhjnhajaa.W8
open Go.RowKit Go.PlainAid M8
set_option linter.unusedVariables false

/-- A block of three numbers. -/
def Tri (w : World) (b : Nat) (t : TypeId) (x y z : Int) : Prop := w.heap[b]? = some (.cells #[.int .i64 x, .int .i64 y, .int .i64 z] t (0, 0))
theorem Tri.lt {w : World} {b t : Nat} {x y z : Int} (h : Tri w b t x y z) : b < w.heap.size := (Array.getElem?_eq_some_iff.1 h).1
theorem Tri.keep {w w' : World} {b t : Nat} {x y z : Int} (h : Tri w b t x y z) (hb : Below w.heap.size w w') : Tri w' b t x y z := (hb.block b h.lt).trans h
theorem Tri.cells {w : World} {b t : Nat} {x y z : Int} (h : Tri w b t x y z) : w.cell? ⟨b, 0, none⟩ = some (.int .i64 x) ∧ w.cell? ⟨b, 1, none⟩ = some (.int .i64 y) ∧ w.cell? ⟨b, 2, none⟩ = some (.int .i64 z) :=
  ⟨by rw [cell_of_row w b 0 _ t (0, 0) h]; rfl, by rw [cell_of_row w b 1 _ t (0, 0) h]; rfl, by rw [cell_of_row w b 2 _ t (0, 0) h]; rfl⟩
theorem Tri.new (w : World) (t : TypeId) (x y z : Int) : Tri (w.alloc (.cells #[.int .i64 x, .int .i64 y, .int .i64 z] t)) w.heap.size t x y z := heap_alloc_new w _
theorem Tri.first (w : World) (t : TypeId) (x y z : Int) (o : Obj) : Tri ((w.alloc (.cells #[.int .i64 x, .int .i64 y, .int .i64 z] t)).alloc o) w.heap.size t x y z := (Tri.new w t x y z).keep (below_box _)
/-- A block of two numbers. -/
def Two (w : World) (b : Nat) (t : TypeId) (x y : Int) : Prop := w.heap[b]? = some (.cells #[.int .i64 x, .int .i64 y] t (0, 0))
theorem Two.lt {w : World} {b t : Nat} {x y : Int} (h : Two w b t x y) : b < w.heap.size := (Array.getElem?_eq_some_iff.1 h).1
theorem Two.keep {w w' : World} {b t : Nat} {x y : Int} (h : Two w b t x y) (hb : Below w.heap.size w w') : Two w' b t x y := (hb.block b h.lt).trans h
theorem Two.cells {w : World} {b t : Nat} {x y : Int} (h : Two w b t x y) : w.cell? ⟨b, 0, none⟩ = some (.int .i64 x) ∧ w.cell? ⟨b, 1, none⟩ = some (.int .i64 y) :=
  ⟨by rw [cell_of_row w b 0 _ t (0, 0) h]; rfl, by rw [cell_of_row w b 1 _ t (0, 0) h]; rfl⟩
theorem Two.new (w : World) (t : TypeId) (x y : Int) : Two (w.alloc (.cells #[.int .i64 x, .int .i64 y] t)) w.heap.size t x y := heap_alloc_new w _
theorem size_box (w : World) (o : Obj) : (w.alloc o).heap.size = w.heap.size + 1 := by simp
theorem below_box2 {w : World} (o o' : Obj) : Below w.heap.size w ((w.alloc o).alloc o') := ((Below.refl _ _).alloc (Nat.le_refl _) _).alloc (by simp) _

theorem ahead_cmp (g : Grp) (k : Int) (x : Id3) : aheadI g k x = (rightI x && decide (cmpI3 x (own g k) < 0)) := by
  unfold aheadI
  congr 1
  rw [Bool.eq_iff_iff]
  simp only [Bool.or_eq_true, Bool.and_eq_true, decide_eq_true_eq]
  rw [cmp_lt, bef_iff, ofS_iff]
  unfold own
  simp only
  omega

set_option maxRecDepth 100000 in
set_option maxHeartbeats 1000000 in
theorem pahead_any (g : Grp) (t r i k : Int) (w : World) : Calls Try.prog 70 #[.agg #[.int .i64 t, .int .i64 r, .int .i64 i], .agg #[.int .i64 g.t, .int .i64 g.r, .int .i64 k]] w fun e w' => e = .returned (.bool (aheadI g k (t, r, i))) ∧ Below w.heap.size w w' := by
  have B0 := Lib.hid (below_box2 (w := w) (.cells #[.int .i64 t, .int .i64 r, .int .i64 i] 40) (.cells #[.int .i64 g.t, .int .i64 g.r, .int .i64 k] 40))
  have T1 : Hid (Tri ((w.alloc (.cells #[.int .i64 t, .int .i64 r, .int .i64 i] 40)).alloc (.cells #[.int .i64 g.t, .int .i64 g.r, .int .i64 k] 40)) w.heap.size 40 t r i) := Tri.first w 40 t r i (.cells #[.int .i64 g.t, .int .i64 g.r, .int .i64 k] 40)
  have T2 : Hid (Tri ((w.alloc (.cells #[.int .i64 t, .int .i64 r, .int .i64 i] 40)).alloc (.cells #[.int .i64 g.t, .int .i64 g.r, .int .i64 k] 40)) (w.heap.size + 1) 40 g.t g.r k) := by
    have h := Tri.new (w.alloc (.cells #[.int .i64 t, .int .i64 r, .int .i64 i] 40)) 40 g.t g.r k
    rw [size_box] at h
    exact h
  obtain ⟨a, ha⟩ : ∃ a, M5.rightId t r i = a := ⟨_, rfl⟩
  obtain ⟨z, hz⟩ : ∃ z, M5.cmpD t r i g.t g.r k = z := ⟨_, rfl⟩
  have HF : Hid (aheadI g k (t, r, i) = (a && decide (z < 0))) := by show _ = _; rw [ahead_cmp, ← ha, ← hz]; rfl
  have HA := Lib.hid ha
  have HZ := Lib.hid hz
  clear ha hz
  go_enter Try.func70, Try.ntmps70
  go_wp2_with fail
  refine (S5.rightId_any _ _ _ _).mono ?_
  rintro e w1 ⟨rfl, hb1⟩
  rw [HA.out]
  have B1 := Lib.hid (chain B0.out hb1)
  have t1 := T1.out.keep hb1
  have t2 := T2.out.keep hb1
  clear T1 T2 B0 hb1
  cases a
  · clear t1 t2
    go_wp2
    go_ret
    exact ⟨by rw [HF.out]; rfl, B1.out⟩
  obtain ⟨c0, c1, c2⟩ := t1.cells
  obtain ⟨d0, d1, d2⟩ := t2.cells
  clear t1 t2
  go_wp2_with fail
  refine (S5.cmpId_any _ _ _ _ _ _ _).mono ?_
  rintro e w2 ⟨rfl, hb2⟩
  rw [HZ.out]
  have B2 := Lib.hid (chain B1.out hb2)
  clear c0 c1 c2 d0 d1 d2 hb2
  go_wp2
  go_ret
  exact ⟨by rw [HF.out]; rfl, B2.out⟩

/-- An id, cell by cell: none, or the first cell that is not 0. -/
theorem none_parts (x : Id3) : (x.1 = 0 ∧ x.2.1 = 0 ∧ x.2.2 = 0 ∧ noneI x = true) ∨ ((x.1 == (0 : Int)) = false ∧ noneI x = false) ∨ (x.1 = 0 ∧ (x.2.1 == (0 : Int)) = false ∧ noneI x = false) ∨ (x.1 = 0 ∧ x.2.1 = 0 ∧ (x.2.2 == (0 : Int)) = false ∧ noneI x = false) := by
  obtain ⟨t, r, i⟩ := x
  have hn : noneI (t, r, i) = decide (t = 0 ∧ r = 0 ∧ i = 0) := by unfold noneI; rw [Bool.eq_iff_iff]; simp
  simp only [beq_eq_false_iff_ne, ne_eq, hn, decide_eq_true_eq, decide_eq_false_iff_not]
  omega

set_option maxRecDepth 100000 in
set_option maxHeartbeats 2000000 in
theorem pparent_any (g : Grp) (t r i k : Int) (w : World) : Calls Try.prog 68 #[.agg #[.int .i64 t, .int .i64 r, .int .i64 i], .agg #[.int .i64 g.t, .int .i64 g.r, .int .i64 k]] w fun e w' => e = .returned (.bool (parentI g k (t, r, i))) ∧ Below w.heap.size w w' := by
  have B0 := Lib.hid (below_box2 (w := w) (.cells #[.int .i64 t, .int .i64 r, .int .i64 i] 40) (.cells #[.int .i64 g.t, .int .i64 g.r, .int .i64 k] 40))
  have T1 : Hid (Tri ((w.alloc (.cells #[.int .i64 t, .int .i64 r, .int .i64 i] 40)).alloc (.cells #[.int .i64 g.t, .int .i64 g.r, .int .i64 k] 40)) w.heap.size 40 t r i) := Tri.first w 40 t r i (.cells #[.int .i64 g.t, .int .i64 g.r, .int .i64 k] 40)
  have T2 : Hid (Tri ((w.alloc (.cells #[.int .i64 t, .int .i64 r, .int .i64 i] 40)).alloc (.cells #[.int .i64 g.t, .int .i64 g.r, .int .i64 k] 40)) (w.heap.size + 1) 40 g.t g.r k) := by
    have h := Tri.new (w.alloc (.cells #[.int .i64 t, .int .i64 r, .int .i64 i] 40)) 40 g.t g.r k
    rw [size_box] at h
    exact h
  obtain ⟨a, ha⟩ : ∃ a, aheadI g k (t, r, i) = a := ⟨_, rfl⟩
  have HA := Lib.hid ha
  clear ha
  rcases none_parts (t, r, i) with h | h | h | h
  · obtain ⟨h1, h2, h3, h4⟩ := h
    simp only at h1 h2 h3
    subst h1 h2 h3
    have HF : Hid (parentI g k (0, 0, 0) = true) := by show _ = _; unfold parentI; rw [h4]; rfl
    clear h4 T1 T2 HA
    go_enter Try.func68, Try.ntmps68
    go_wp2
    go_ret
    exact ⟨by rw [HF.out]; rfl, B0.out⟩
  · obtain ⟨h1, h4⟩ := h
    simp only at h1
    have HF : Hid (parentI g k (t, r, i) = a) := by show _ = _; unfold parentI; rw [h4, HA.out]; rfl
    clear h4
    obtain ⟨c0, c1, c2⟩ := T1.out.cells
    obtain ⟨d0, d1, d2⟩ := T2.out.cells
    clear T1 T2
    go_enter Try.func68, Try.ntmps68
    go_wp2_with fail
    refine (pahead_any g _ _ _ _ _).mono ?_
    rintro e w2 ⟨rfl, hb2⟩
    rw [HA.out]
    have B2 := Lib.hid (chain B0.out hb2)
    clear c0 c1 c2 d0 d1 d2 hb2
    go_wp2
    go_ret
    exact ⟨by rw [HF.out]; rfl, B2.out⟩
  · obtain ⟨h1, h2, h4⟩ := h
    simp only at h1 h2
    subst h1
    have HF : Hid (parentI g k (0, r, i) = a) := by show _ = _; unfold parentI; rw [h4, HA.out]; rfl
    clear h4
    obtain ⟨c0, c1, c2⟩ := T1.out.cells
    obtain ⟨d0, d1, d2⟩ := T2.out.cells
    clear T1 T2
    go_enter Try.func68, Try.ntmps68
    go_wp2_with fail
    refine (pahead_any g _ _ _ _ _).mono ?_
    rintro e w2 ⟨rfl, hb2⟩
    rw [HA.out]
    have B2 := Lib.hid (chain B0.out hb2)
    clear c0 c1 c2 d0 d1 d2 hb2
    go_wp2
    go_ret
    exact ⟨by rw [HF.out]; rfl, B2.out⟩
  · obtain ⟨h1, h2, h3, h4⟩ := h
    simp only at h1 h2 h3
    subst h1
    subst h2
    have HF : Hid (parentI g k (0, 0, i) = a) := by show _ = _; unfold parentI; rw [h4, HA.out]; rfl
    clear h4
    obtain ⟨c0, c1, c2⟩ := T1.out.cells
    obtain ⟨d0, d1, d2⟩ := T2.out.cells
    clear T1 T2
    go_enter Try.func68, Try.ntmps68
    go_wp2_with fail
    refine (pahead_any g _ _ _ _ _).mono ?_
    rintro e w2 ⟨rfl, hb2⟩
    rw [HA.out]
    have B2 := Lib.hid (chain B0.out hb2)
    clear c0 c1 c2 d0 d1 d2 hb2
    go_wp2
    go_ret
    exact ⟨by rw [HF.out]; rfl, B2.out⟩

end Go.Proofs.Ytphnimmhjnhajaa.W8

