/-
  Layer 8, walks of the program: how many ids come to be in an operation, and whether it may be.
-/
import Derived.Test.YtphnimmhjnhajaaKW9e
import Derived.Test.YtphnimmhjnhajaaKB
namespace Go.Proofs.Ytphnimmhjnhajaa.W8
open Go.RowKit Go.PlainAid M8
set_option linter.unusedVariables false

/-- What stays in 'born': the boxed operation, and the next own id. -/
def HB (W : World) (x : OpR) (g : Grp) (k : Int) (w' : World) : Prop := OpIn w' W.heap.size x ∧ Tri w' (W.heap.size + 1) 40 g.t g.r k ∧ W.heap.size + 1 < w'.heap.size ∧ Below W.heap.size W w'
theorem HB.keep {W : World} {x : OpR} {g : Grp} {k : Int} {a a' : World} (h : HB W x g k a) (hb : Below a.heap.size a a') : HB W x g k a' :=
  ⟨h.1.keep hb (by have := h.2.2.1; omega), h.2.1.keep hb, Nat.lt_of_lt_of_le h.2.2.1 hb.size, chain h.2.2.2 hb⟩
theorem HB.new (W : World) (x : OpR) (g : Grp) (k : Int) : HB W x g k ((W.alloc (.cells x.cells.toArray 44)).alloc (.cells #[.int .i64 g.t, .int .i64 g.r, .int .i64 k] 40)) := by
  refine ⟨(op_new W x).2.keep (below_box _) (by simp), ?_, by simp, below_box2 _ _⟩
  have h := Tri.new (W.alloc (.cells x.cells.toArray 44)) 40 g.t g.r k
  rw [size_box] at h
  exact h
theorem own_parts (x : Id3) (g : Grp) (k : Int) : ((x.1 == g.t) = true ∧ (x.2.1 == g.r) = true ∧ (x.2.2 == k) = true ∧ (x == own g k) = true) ∨ ((x.1 == g.t) = false ∧ (x == own g k) = false) ∨ ((x.1 == g.t) = true ∧ (x.2.1 == g.r) = false ∧ (x == own g k) = false) ∨ ((x.1 == g.t) = true ∧ (x.2.1 == g.r) = true ∧ (x.2.2 == k) = false ∧ (x == own g k) = false) := by
  obtain ⟨t, r, i⟩ := x
  have hn : ((t, r, i) == own g k) = decide (t = g.t ∧ r = g.r ∧ i = k) := by
    unfold own
    rw [Bool.eq_iff_iff]
    simp
  simp only [beq_iff_eq, beq_eq_false_iff_ne, ne_eq, hn, decide_eq_true_eq, decide_eq_false_iff_not]
  omega
/-- What 'born' tells. -/
def BornE (g : Grp) (k : Int) (x : OpR) (w : World) (e : Ending) (w' : World) : Prop :=
  (∃ (n : Nat) (b : Bool), e = .returned (.tuple #[.int .i64 (n : Int), .bool b]) ∧ ((b = false ∧ opN g k x.o = none) ∨ (b = true ∧ n ≤ 2000 ∧ (x.o.kind = 0 ∨ x.o.kind = 1 ∨ x.o.kind = 2 ∨ x.o.kind = 3 ∨ x.o.kind = 4) ∧ opN g k x.o = if bareK x.o = true then some n else none))) ∧ Below w.heap.size w w'

set_option maxRecDepth 100000 in
set_option maxHeartbeats 4000000 in
theorem born_make (g : Grp) (k : Int) (x : OpR) (w : World) (hx : OpAt w x) (hk : x.o.kind = 0) : Calls Try.prog 59 #[.agg x.cells.toArray, .agg #[.int .i64 g.t, .int .i64 g.r, .int .i64 k]] w (BornE g k x w) := by
  have H0 := HB.new w x g k
  obtain ⟨W0, hW⟩ : ∃ W0, (w.alloc (.cells x.cells.toArray 44)).alloc (.cells #[.int .i64 g.t, .int .i64 g.r, .int .i64 k] 40) = W0 := ⟨_, rfl⟩
  rw [hW] at H0
  have HH := Lib.hid H0
  obtain ⟨⟨d0, d1, d2, d3, d4, d5, d6, d7, d8, d9, d10, d11, d12, d13, d14, d15, d16, d17⟩, ht, hlt, hbl⟩ := H0
  obtain ⟨n0, n1, n2⟩ := ht.cells
  rw [hk] at d0
  have HX := Lib.hid hx
  have HK := Lib.hid hk
  clear ht hbl hx hk
  rcases own_parts x.o.node g k with ⟨e1, e2, e3, en⟩ | ⟨e1, en⟩ | ⟨e1, e2, en⟩ | ⟨e1, e2, e3, en⟩
  rotate_left
  · have HN := Lib.hid en
    clear en d4 d5 d6 d7 d8 d9 d10 d11 d12 d13 d14 d15 d16 d17
    go_enter Try.func59, Try.ntmps59
    go_wp2
    go_ret2
    exact ⟨⟨1, false, rfl, .inl ⟨rfl, by unfold opN; rw [HK.out]; simp [HN.out]⟩⟩, HH.out.2.2.2⟩
  · have HN := Lib.hid en
    clear en d4 d5 d6 d7 d8 d9 d10 d11 d12 d13 d14 d15 d16 d17
    go_enter Try.func59, Try.ntmps59
    go_wp2
    go_ret2
    exact ⟨⟨1, false, rfl, .inl ⟨rfl, by unfold opN; rw [HK.out]; simp [HN.out]⟩⟩, HH.out.2.2.2⟩
  · have HN := Lib.hid en
    clear en d4 d5 d6 d7 d8 d9 d10 d11 d12 d13 d14 d15 d16 d17
    go_enter Try.func59, Try.ntmps59
    go_wp2
    go_ret2
    exact ⟨⟨1, false, rfl, .inl ⟨rfl, by unfold opN; rw [HK.out]; simp [HN.out]⟩⟩, HH.out.2.2.2⟩
  have HN := Lib.hid en
  clear en
  go_enter Try.func59, Try.ntmps59
  obtain ⟨vp, hvp⟩ : ∃ v, parentI g k x.o.parent = v := ⟨_, rfl⟩
  have Hvp := Lib.hid hvp
  go_wp2_with fail
  refine ((pparent_any g _ _ _ k _)).mono ?_
  rintro e wvp ⟨rfl, hb1⟩
  rw [show parentI g k x.o.parent = vp from hvp]
  clear hvp
  replace HH := Lib.hid (HH.out.keep hb1)
  clear d0 d1 d2 d3 d4 d5 d6 d7 d8 d9 d10 d11 d12 d13 d14 d15 d16 d17 n0 n1 n2 hlt hb1
  obtain ⟨⟨d0, d1, d2, d3, d4, d5, d6, d7, d8, d9, d10, d11, d12, d13, d14, d15, d16, d17⟩, ht, hlt, hbl⟩ := HH.out
  obtain ⟨n0, n1, n2⟩ := ht.cells
  clear ht hbl
  cases vp
  · clear d0 d1 d2 d3 d4 d5 d6 d7 d8 d9 d10 d11 d12 d13 d14 d15 d16 d17 n0 n1 n2 hlt
    go_wp2
    go_ret2
    exact ⟨⟨1, false, rfl, .inl ⟨rfl, by unfold opN; rw [HK.out]; simp [HN.out, Hvp.out]⟩⟩, HH.out.2.2.2⟩
  obtain ⟨vn, hvn⟩ : ∃ v, M7.nameB x.o.name = v := ⟨_, rfl⟩
  have Hvn := Lib.hid hvn
  go_wp2_with fail
  refine (P7.name_any x.o.name _).mono ?_
  rintro e wvn ⟨rfl, hb1⟩
  rw [show M7.nameB x.o.name = vn from hvn]
  clear hvn
  replace HH := Lib.hid (HH.out.keep hb1)
  clear d0 d1 d2 d3 d4 d5 d6 d7 d8 d9 d10 d11 d12 d13 d14 d15 d16 d17 n0 n1 n2 hlt hb1
  obtain ⟨⟨d0, d1, d2, d3, d4, d5, d6, d7, d8, d9, d10, d11, d12, d13, d14, d15, d16, d17⟩, ht, hlt, hbl⟩ := HH.out
  obtain ⟨n0, n1, n2⟩ := ht.cells
  clear ht hbl
  cases vn
  · clear d0 d1 d2 d3 d4 d5 d6 d7 d8 d9 d10 d11 d12 d13 d14 d15 d16 d17 n0 n1 n2 hlt
    go_wp2
    go_ret2
    exact ⟨⟨1, false, rfl, .inl ⟨rfl, by unfold opN; rw [HK.out]; simp [HN.out, Hvp.out, Hvn.out]⟩⟩, HH.out.2.2.2⟩
  clear d0 d1 d2 d3 d4 d5 d6 d7 d8 d9 d10 d11 d12 d13 d14 d15 d16 d17 n0 n1 n2 hlt
  go_wp2
  go_ret2
  exact ⟨⟨1, true, rfl, .inr ⟨rfl, by omega, by have := HK.out; omega, by unfold opN bareK; rw [HK.out]; simp [HN.out, Hvp.out, Hvn.out]⟩⟩, HH.out.2.2.2⟩

set_option maxRecDepth 100000 in
set_option maxHeartbeats 4000000 in
theorem born_move (g : Grp) (k : Int) (x : OpR) (w : World) (hx : OpAt w x) (hk : x.o.kind = 1) : Calls Try.prog 59 #[.agg x.cells.toArray, .agg #[.int .i64 g.t, .int .i64 g.r, .int .i64 k]] w (BornE g k x w) := by
  have H0 := HB.new w x g k
  obtain ⟨W0, hW⟩ : ∃ W0, (w.alloc (.cells x.cells.toArray 44)).alloc (.cells #[.int .i64 g.t, .int .i64 g.r, .int .i64 k] 40) = W0 := ⟨_, rfl⟩
  rw [hW] at H0
  have HH := Lib.hid H0
  obtain ⟨⟨d0, d1, d2, d3, d4, d5, d6, d7, d8, d9, d10, d11, d12, d13, d14, d15, d16, d17⟩, ht, hlt, hbl⟩ := H0
  obtain ⟨n0, n1, n2⟩ := ht.cells
  rw [hk] at d0
  have HX := Lib.hid hx
  have HK := Lib.hid hk
  clear ht hbl hx hk
  go_enter Try.func59, Try.ntmps59
  obtain ⟨va, hva⟩ : ∃ v, aheadI g k x.o.node = v := ⟨_, rfl⟩
  have Hva := Lib.hid hva
  go_wp2_with fail
  refine ((pahead_any g _ _ _ k _)).mono ?_
  rintro e wva ⟨rfl, hb1⟩
  rw [show aheadI g k x.o.node = va from hva]
  clear hva
  replace HH := Lib.hid (HH.out.keep hb1)
  clear d0 d1 d2 d3 d4 d5 d6 d7 d8 d9 d10 d11 d12 d13 d14 d15 d16 d17 n0 n1 n2 hlt hb1
  obtain ⟨⟨d0, d1, d2, d3, d4, d5, d6, d7, d8, d9, d10, d11, d12, d13, d14, d15, d16, d17⟩, ht, hlt, hbl⟩ := HH.out
  obtain ⟨n0, n1, n2⟩ := ht.cells
  clear ht hbl
  cases va
  · clear d0 d1 d2 d3 d4 d5 d6 d7 d8 d9 d10 d11 d12 d13 d14 d15 d16 d17 n0 n1 n2 hlt
    go_wp2
    go_ret2
    exact ⟨⟨0, false, rfl, .inl ⟨rfl, by unfold opN; rw [HK.out]; simp [Hva.out]⟩⟩, HH.out.2.2.2⟩
  obtain ⟨vp, hvp⟩ : ∃ v, parentI g k x.o.parent = v := ⟨_, rfl⟩
  have Hvp := Lib.hid hvp
  go_wp2_with fail
  refine ((pparent_any g _ _ _ k _)).mono ?_
  rintro e wvp ⟨rfl, hb1⟩
  rw [show parentI g k x.o.parent = vp from hvp]
  clear hvp
  replace HH := Lib.hid (HH.out.keep hb1)
  clear d0 d1 d2 d3 d4 d5 d6 d7 d8 d9 d10 d11 d12 d13 d14 d15 d16 d17 n0 n1 n2 hlt hb1
  obtain ⟨⟨d0, d1, d2, d3, d4, d5, d6, d7, d8, d9, d10, d11, d12, d13, d14, d15, d16, d17⟩, ht, hlt, hbl⟩ := HH.out
  obtain ⟨n0, n1, n2⟩ := ht.cells
  clear ht hbl
  cases vp
  · clear d0 d1 d2 d3 d4 d5 d6 d7 d8 d9 d10 d11 d12 d13 d14 d15 d16 d17 n0 n1 n2 hlt
    go_wp2
    go_ret2
    exact ⟨⟨0, false, rfl, .inl ⟨rfl, by unfold opN; rw [HK.out]; simp [Hva.out, Hvp.out]⟩⟩, HH.out.2.2.2⟩
  obtain ⟨vn, hvn⟩ : ∃ v, M7.nameB x.o.name = v := ⟨_, rfl⟩
  have Hvn := Lib.hid hvn
  go_wp2_with fail
  refine (P7.name_any x.o.name _).mono ?_
  rintro e wvn ⟨rfl, hb1⟩
  rw [show M7.nameB x.o.name = vn from hvn]
  clear hvn
  replace HH := Lib.hid (HH.out.keep hb1)
  clear d0 d1 d2 d3 d4 d5 d6 d7 d8 d9 d10 d11 d12 d13 d14 d15 d16 d17 n0 n1 n2 hlt hb1
  obtain ⟨⟨d0, d1, d2, d3, d4, d5, d6, d7, d8, d9, d10, d11, d12, d13, d14, d15, d16, d17⟩, ht, hlt, hbl⟩ := HH.out
  obtain ⟨n0, n1, n2⟩ := ht.cells
  clear ht hbl
  cases vn
  · clear d0 d1 d2 d3 d4 d5 d6 d7 d8 d9 d10 d11 d12 d13 d14 d15 d16 d17 n0 n1 n2 hlt
    go_wp2
    go_ret2
    exact ⟨⟨0, false, rfl, .inl ⟨rfl, by unfold opN; rw [HK.out]; simp [Hva.out, Hvp.out, Hvn.out]⟩⟩, HH.out.2.2.2⟩
  clear d0 d1 d2 d3 d4 d5 d6 d7 d8 d9 d10 d11 d12 d13 d14 d15 d16 d17 n0 n1 n2 hlt
  go_wp2
  go_ret2
  exact ⟨⟨0, true, rfl, .inr ⟨rfl, by omega, by have := HK.out; omega, by unfold opN bareK; rw [HK.out]; simp [Hva.out, Hvp.out, Hvn.out]⟩⟩, HH.out.2.2.2⟩

set_option maxRecDepth 100000 in
set_option maxHeartbeats 4000000 in
theorem born_drop (g : Grp) (k : Int) (x : OpR) (w : World) (hx : OpAt w x) (hk : x.o.kind = 2) : Calls Try.prog 59 #[.agg x.cells.toArray, .agg #[.int .i64 g.t, .int .i64 g.r, .int .i64 k]] w (BornE g k x w) := by
  have H0 := HB.new w x g k
  obtain ⟨W0, hW⟩ : ∃ W0, (w.alloc (.cells x.cells.toArray 44)).alloc (.cells #[.int .i64 g.t, .int .i64 g.r, .int .i64 k] 40) = W0 := ⟨_, rfl⟩
  rw [hW] at H0
  have HH := Lib.hid H0
  obtain ⟨⟨d0, d1, d2, d3, d4, d5, d6, d7, d8, d9, d10, d11, d12, d13, d14, d15, d16, d17⟩, ht, hlt, hbl⟩ := H0
  obtain ⟨n0, n1, n2⟩ := ht.cells
  rw [hk] at d0
  have HX := Lib.hid hx
  have HK := Lib.hid hk
  clear ht hbl hx hk
  go_enter Try.func59, Try.ntmps59
  obtain ⟨va, hva⟩ : ∃ v, aheadI g k x.o.node = v := ⟨_, rfl⟩
  have Hva := Lib.hid hva
  go_wp2_with fail
  refine ((pahead_any g _ _ _ k _)).mono ?_
  rintro e wva ⟨rfl, hb1⟩
  rw [show aheadI g k x.o.node = va from hva]
  clear hva
  replace HH := Lib.hid (HH.out.keep hb1)
  clear d0 d1 d2 d3 d4 d5 d6 d7 d8 d9 d10 d11 d12 d13 d14 d15 d16 d17 n0 n1 n2 hlt hb1
  obtain ⟨⟨d0, d1, d2, d3, d4, d5, d6, d7, d8, d9, d10, d11, d12, d13, d14, d15, d16, d17⟩, ht, hlt, hbl⟩ := HH.out
  obtain ⟨n0, n1, n2⟩ := ht.cells
  clear ht hbl
  cases va
  · clear d0 d1 d2 d3 d4 d5 d6 d7 d8 d9 d10 d11 d12 d13 d14 d15 d16 d17 n0 n1 n2 hlt
    go_wp2
    go_ret2
    exact ⟨⟨0, false, rfl, .inl ⟨rfl, by unfold opN; rw [HK.out]; simp [Hva.out]⟩⟩, HH.out.2.2.2⟩
  obtain ⟨vl, hvl⟩ : ∃ v, (dotsB g x.o.dots && decide (x.o.dots.length ≤ 200)) = v := ⟨_, rfl⟩
  have Hvl := Lib.hid hvl
  go_wp2_with fail
  refine (dotsMay_any g x.o.dots x.dA x.dc _ (HX.out.dots.below HH.out.2.2.2 (Nat.le_refl _))).mono ?_
  rintro e wvl ⟨rfl, hb1⟩
  rw [show (dotsB g x.o.dots && decide (x.o.dots.length ≤ 200)) = vl from hvl]
  clear hvl
  replace HH := Lib.hid (HH.out.keep hb1)
  clear d0 d1 d2 d3 d4 d5 d6 d7 d8 d9 d10 d11 d12 d13 d14 d15 d16 d17 n0 n1 n2 hlt hb1
  obtain ⟨⟨d0, d1, d2, d3, d4, d5, d6, d7, d8, d9, d10, d11, d12, d13, d14, d15, d16, d17⟩, ht, hlt, hbl⟩ := HH.out
  obtain ⟨n0, n1, n2⟩ := ht.cells
  clear ht hbl
  cases vl
  · clear d0 d1 d2 d3 d4 d5 d6 d7 d8 d9 d10 d11 d12 d13 d14 d15 d16 d17 n0 n1 n2 hlt
    go_wp2
    go_ret2
    exact ⟨⟨0, false, rfl, .inl ⟨rfl, by unfold opN; rw [HK.out]; simp [Hva.out, Hvl.out]⟩⟩, HH.out.2.2.2⟩
  clear d0 d1 d2 d3 d4 d5 d6 d7 d8 d9 d10 d11 d12 d13 d14 d15 d16 d17 n0 n1 n2 hlt
  go_wp2
  go_ret2
  exact ⟨⟨0, true, rfl, .inr ⟨rfl, by omega, by have := HK.out; omega, by unfold opN bareK; rw [HK.out]; simp [Hva.out, Hvl.out]⟩⟩, HH.out.2.2.2⟩

set_option maxRecDepth 100000 in
set_option maxHeartbeats 4000000 in
theorem born_erase (g : Grp) (k : Int) (x : OpR) (w : World) (hx : OpAt w x) (hk : x.o.kind = 4) : Calls Try.prog 59 #[.agg x.cells.toArray, .agg #[.int .i64 g.t, .int .i64 g.r, .int .i64 k]] w (BornE g k x w) := by
  have H0 := HB.new w x g k
  obtain ⟨W0, hW⟩ : ∃ W0, (w.alloc (.cells x.cells.toArray 44)).alloc (.cells #[.int .i64 g.t, .int .i64 g.r, .int .i64 k] 40) = W0 := ⟨_, rfl⟩
  rw [hW] at H0
  have HH := Lib.hid H0
  obtain ⟨⟨d0, d1, d2, d3, d4, d5, d6, d7, d8, d9, d10, d11, d12, d13, d14, d15, d16, d17⟩, ht, hlt, hbl⟩ := H0
  obtain ⟨n0, n1, n2⟩ := ht.cells
  rw [hk] at d0
  have HX := Lib.hid hx
  have HK := Lib.hid hk
  clear ht hbl hx hk
  go_enter Try.func59, Try.ntmps59
  obtain ⟨va, hva⟩ : ∃ v, aheadI g k x.o.node = v := ⟨_, rfl⟩
  have Hva := Lib.hid hva
  go_wp2_with fail
  refine ((pahead_any g _ _ _ k _)).mono ?_
  rintro e wva ⟨rfl, hb1⟩
  rw [show aheadI g k x.o.node = va from hva]
  clear hva
  replace HH := Lib.hid (HH.out.keep hb1)
  clear d0 d1 d2 d3 d4 d5 d6 d7 d8 d9 d10 d11 d12 d13 d14 d15 d16 d17 n0 n1 n2 hlt hb1
  obtain ⟨⟨d0, d1, d2, d3, d4, d5, d6, d7, d8, d9, d10, d11, d12, d13, d14, d15, d16, d17⟩, ht, hlt, hbl⟩ := HH.out
  obtain ⟨n0, n1, n2⟩ := ht.cells
  clear ht hbl
  cases va
  · clear d0 d1 d2 d3 d4 d5 d6 d7 d8 d9 d10 d11 d12 d13 d14 d15 d16 d17 n0 n1 n2 hlt
    go_wp2
    go_ret2
    exact ⟨⟨0, false, rfl, .inl ⟨rfl, by unfold opN; rw [HK.out]; simp [Hva.out]⟩⟩, HH.out.2.2.2⟩
  obtain ⟨vl, hvl⟩ : ∃ v, (elemsB g k x.o.elems && (decide (1 ≤ x.o.elems.length) && decide (x.o.elems.length ≤ 2000))) = v := ⟨_, rfl⟩
  have Hvl := Lib.hid hvl
  go_wp2_with fail
  refine (elemsMay_any g k x.o.elems x.eA x.ec _ (HX.out.elems.below HH.out.2.2.2 (Nat.le_refl _))).mono ?_
  rintro e wvl ⟨rfl, hb1⟩
  rw [show (elemsB g k x.o.elems && (decide (1 ≤ x.o.elems.length) && decide (x.o.elems.length ≤ 2000))) = vl from hvl]
  clear hvl
  replace HH := Lib.hid (HH.out.keep hb1)
  clear d0 d1 d2 d3 d4 d5 d6 d7 d8 d9 d10 d11 d12 d13 d14 d15 d16 d17 n0 n1 n2 hlt hb1
  obtain ⟨⟨d0, d1, d2, d3, d4, d5, d6, d7, d8, d9, d10, d11, d12, d13, d14, d15, d16, d17⟩, ht, hlt, hbl⟩ := HH.out
  obtain ⟨n0, n1, n2⟩ := ht.cells
  clear ht hbl
  cases vl
  · clear d0 d1 d2 d3 d4 d5 d6 d7 d8 d9 d10 d11 d12 d13 d14 d15 d16 d17 n0 n1 n2 hlt
    go_wp2
    go_ret2
    exact ⟨⟨0, false, rfl, .inl ⟨rfl, by unfold opN; rw [HK.out]; simp [Hva.out, Hvl.out]⟩⟩, HH.out.2.2.2⟩
  clear d0 d1 d2 d3 d4 d5 d6 d7 d8 d9 d10 d11 d12 d13 d14 d15 d16 d17 n0 n1 n2 hlt
  go_wp2
  go_ret2
  exact ⟨⟨0, true, rfl, .inr ⟨rfl, by omega, by have := HK.out; omega, by unfold opN bareK; rw [HK.out]; simp [Hva.out, Hvl.out]⟩⟩, HH.out.2.2.2⟩

set_option maxRecDepth 100000 in
set_option maxHeartbeats 4000000 in
theorem born_other (g : Grp) (k : Int) (x : OpR) (w : World) (hx : OpAt w x) (hk : x.o.kind ≠ 0 ∧ x.o.kind ≠ 1 ∧ x.o.kind ≠ 2 ∧ x.o.kind ≠ 3 ∧ x.o.kind ≠ 4) : Calls Try.prog 59 #[.agg x.cells.toArray, .agg #[.int .i64 g.t, .int .i64 g.r, .int .i64 k]] w (BornE g k x w) := by
  have H0 := HB.new w x g k
  obtain ⟨W0, hW⟩ : ∃ W0, (w.alloc (.cells x.cells.toArray 44)).alloc (.cells #[.int .i64 g.t, .int .i64 g.r, .int .i64 k] 40) = W0 := ⟨_, rfl⟩
  rw [hW] at H0
  have HH := Lib.hid H0
  obtain ⟨⟨d0, d1, d2, d3, d4, d5, d6, d7, d8, d9, d10, d11, d12, d13, d14, d15, d16, d17⟩, ht, hlt, hbl⟩ := H0
  obtain ⟨n0, n1, n2⟩ := ht.cells
  obtain ⟨k0, k1, k2, k3, k4⟩ := hk
  have HX := Lib.hid hx
  clear ht hbl hx
  have f0 : (x.o.kind == (0 : Int)) = false := by rw [beq_eq_false_iff_ne]; exact k0
  have f1 : (x.o.kind == (1 : Int)) = false := by rw [beq_eq_false_iff_ne]; exact k1
  have f2 : (x.o.kind == (2 : Int)) = false := by rw [beq_eq_false_iff_ne]; exact k2
  have f3 : (x.o.kind == (3 : Int)) = false := by rw [beq_eq_false_iff_ne]; exact k3
  have f4 : (x.o.kind == (4 : Int)) = false := by rw [beq_eq_false_iff_ne]; exact k4
  have HN : Hid (opN g k x.o = none) := by show _ = _; unfold opN; rw [if_neg k0, if_neg k1, if_neg k2, if_neg k3, if_neg k4]
  clear k0 k1 k2 k3 k4
  go_enter Try.func59, Try.ntmps59
  go_wp2
  go_ret2
  exact ⟨⟨0, false, rfl, .inl ⟨rfl, HN.out⟩⟩, HH.out.2.2.2⟩

end Go.Proofs.Ytphnimmhjnhajaa.W8

