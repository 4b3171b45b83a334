/-
  Layer 10, walks: place, find, count, Clone.
-/
import Derived.Test.YtnbgnjpjdplocaaQ10d
namespace Go.Proofs.Ytnbgnjpjdplocaa.Q10
open Go.RowKit Go.PlainAid
set_option linter.unusedVariables false
set_option linter.unusedSimpArgs false

theorem setCell_one {w : World} {b : Nat} {u v : Value} {t : TypeId} (h : w.heap[b]? = some (.cells #[u] t (0, 0))) : (w.setCell ⟨b, 0, none⟩ v).heap[b]? = some (.cells #[v] t (0, 0)) := by
  rw [setCell_eq_setRow w b 0 #[u] t (0, 0) v h]
  exact setRow_heap w b #[u] _ t (0, 0) h
theorem setCell_grown (w : World) (b o : Nat) (v : Value) : w.grownBy (w.setCell ⟨b, o, none⟩ v) (some b) :=
  ⟨rfl, rfl, rfl, by simp [World.setCell], fun k hk hne => Below.heap_setCell _ _ _ _ (fun e => hne (by rw [e]))⟩
theorem heap_lt {w : World} {b : Nat} {o : Obj} (h : w.heap[b]? = some o) : b < w.heap.size := (Array.getElem?_eq_some_iff.1 h).1
theorem heap_past {w : World} {b : Nat} {o : Obj} (h : w.heap[b]? = some o) (o' : Obj) : (w.alloc o').heap[b]? = some o := (Below.heap_alloc w o' b (heap_lt h)).trans h
theorem seenN_mono {l : List En} {a b : Nat} (h : a ≤ b) : seenN (l.take a) ≤ seenN (l.take b) := by
  have e : l.take b = l.take a ++ (l.take b).drop a := by
    have := List.take_append_drop a (l.take b)
    rw [List.take_take, Nat.min_eq_left h] at this
    exact this.symm
  rw [e, seenN_append]; omega

set_option maxRecDepth 100000 in
set_option maxHeartbeats 1000000 in
theorem isSeen_any (e0 : En) (B : Nat) (q q' : Int) (W : World) (hB : W.heap[B]? = some (.cells #[.int .i64 q] 3 (0, 0))) (h1 : -1000000 ≤ q) (h2 : q ≤ 1000000) (hq : q' = if e0.2 then q - 1 else q) :
    Calls Try.prog 39 (#[enV e0] ++ #[.pointer (some ⟨B, 0, none⟩)]) W fun e w' => e = .returned (.bool (decide (q' < 0))) ∧ w'.heap[B]? = some (.cells #[.int .i64 q'] 3 (0, 0)) ∧ W.grownBy w' (some B) := by
  obtain ⟨⟨a, b, c⟩, s⟩ := e0
  have hlt := heap_lt hB
  have c0 := cells_at hB 0
  have f0 := frozen_at hB 0
  have HB := Lib.hid hB
  clear hB
  have hne : B ≠ W.heap.size := by omega
  show Calls Try.prog 39 #[.agg #[.int .i64 a, .int .i64 b, .int .i64 c, .bool s], .pointer (some ⟨B, 0, none⟩)] W fun e w' => e = .returned (.bool (decide (q' < 0))) ∧ w'.heap[B]? = some (.cells #[.int .i64 q'] 3 (0, 0)) ∧ W.grownBy w' (some B)
  cases s with
  | true =>
    obtain rfl : q' = q - 1 := by simpa using hq
    clear hq
    go_enter Try.func39, Try.ntmps39
    go_wp2
    go_ret
    exact ⟨rfl, heap_past (setCell_one HB.out) _, grown_trans (setCell_grown _ _ _ _) (World.grownBy_alloc _ _ _)⟩
  | false =>
    obtain rfl : q' = q := by simpa using hq
    clear hq
    go_enter Try.func39, Try.ntmps39
    go_wp2
    go_ret
    exact ⟨rfl, heap_past HB.out _, World.grownBy_alloc _ _ _⟩

def isX (l : List En) (x : Nm) (j : Nat) : Bool := if h : j < l.length then decide (l[j].1 = x) else false

set_option maxRecDepth 100000 in
set_option maxHeartbeats 1000000 in
theorem place_any (p : Nat) (A : Option Addr) (n c : Nat) (l : List En) (x : Nm) (w : World) (hp : w.cell? ⟨p, 0, none⟩ = some (.slice A n c)) (hr : Rd w A (ens l)) (hl : l.length = n) (hn : n ≤ 1000000)
    (k0 : Nat) (hk0 : k0 < l.length) (hx : l[k0].1 = x) (hlt : ∀ j (hj : j < l.length), j < k0 → l[j].1 ≠ x) :
    Calls Try.prog 29 #[.pointer (some ⟨p, 0, none⟩), nmV x] w fun e w' => e = .returned (.int .i64 (k0 : Int)) ∧ Below w.heap.size w w' := by
  obtain ⟨t, r, i⟩ := x
  have hb1 : Below w.heap.size w (w.alloc (.cells #[.int .i64 t, .int .i64 r, .int .i64 i] 35)) := (Below.refl _ _).alloc (Nat.le_refl _) _
  have hs : (w.alloc (.cells #[.int .i64 t, .int .i64 r, .int .i64 i] 35)).heap.size = w.heap.size + 1 := by simp
  have hc := fun j => World.cell?_alloc_at (w := w) #[.int .i64 t, .int .i64 r, .int .i64 i] 35 w.heap.size j rfl
  have HI := Lib.hid (indexFunc_any 38 #[.pointer (some ⟨w.heap.size, 0, none⟩)] enters_place A n c l (w.alloc (.cells #[.int .i64 t, .int .i64 r, .int .i64 i] 35)) hl hn
    (fun _ W => Below (w.heap.size + 1) (w.alloc (.cells #[.int .i64 t, .int .i64 r, .int .i64 i] 35)) W) (isX l (t, r, i)) (Below.refl _ _)
    (fun k W h => (hr.keep hb1).below h (by omega))
    (fun k hk W h => by
      have hW : w.heap.size < W.heap.size := by have := h.size; omega
      have e : isX l (t, r, i) k = decide (l[k].1 = (t, r, i)) := by simp [isX, hk]
      rw [e]
      refine (isPlace_any l[k] (t, r, i) w.heap.size W ?_ ?_ ?_ hW).mono fun _ _ ⟨h1, h2⟩ => ⟨h1, h.trans (h2.mono hW)⟩
      · exact (h.cell (p := ⟨w.heap.size, 0, none⟩) (by show w.heap.size < _; omega)).trans (hc 0)
      · exact (h.cell (p := ⟨w.heap.size, 1, none⟩) (by show w.heap.size < _; omega)).trans (hc 1)
      · exact (h.cell (p := ⟨w.heap.size, 2, none⟩) (by show w.heap.size < _; omega)).trans (hc 2))
    k0 (by omega) (by simp [isX, hk0, hx]) (fun j hj => by
      have hj2 : j < l.length := by omega
      simp [isX, hj2, hlt j hj2 hj]))
  have hpw : p < w.heap.size := World.block_lt_of_cell? w _ hp
  have hne : p ≠ w.heap.size := by omega
  clear hc hr hlt hx
  show Calls Try.prog 29 #[.pointer (some ⟨p, 0, none⟩), .agg #[.int .i64 t, .int .i64 r, .int .i64 i]] w fun e w' => e = .returned (.int .i64 (k0 : Int)) ∧ Below w.heap.size w w'
  go_enter Try.func29, Try.ntmps29
  go_wp2_with fail
  refine (HI.out).mono ?_
  rintro e w1 ⟨rfl, hb2⟩
  go_wp2
  go_ret
  exact ⟨rfl, hb1.trans (hb2.mono (by omega))⟩

theorem set3_heap {w : World} {b : Nat} {x y z x' y' z' : Value} {t : TypeId} (h : w.heap[b]? = some (.cells #[x, y, z] t (0, 0))) :
    (((w.setCell ⟨b, 0, none⟩ x').setCell ⟨b, 1, none⟩ y').setCell ⟨b, 2, none⟩ z').heap[b]? = some (.cells #[x', y', z'] t (0, 0)) := by
  rw [setCell_eq_setRow w b 0 _ t (0, 0) x' h]
  have h1 := setRow_heap w b _ ((#[x, y, z] : Array Value).setIfInBounds 0 x') t (0, 0) h
  rw [setCell_eq_setRow _ b 1 _ t (0, 0) y' h1]
  have h2 := setRow_heap _ b _ (((#[x, y, z] : Array Value).setIfInBounds 0 x').setIfInBounds 1 y') t (0, 0) h1
  rw [setCell_eq_setRow _ b 2 _ t (0, 0) z' h2]
  exact setRow_heap _ b _ _ t (0, 0) h2
theorem grown_below {w w1 w2 : World} {B b : Nat} (h : Below B w w1) (hg : w1.grownBy w2 (some b)) (hB : B ≤ w1.heap.size) (hb : B ≤ b) : Below B w w2 :=
  h.grown hg hB (fun k hk => by cases hk; exact hb)

set_option maxRecDepth 100000 in
set_option maxHeartbeats 1000000 in
theorem find_any (p : Nat) (A : Option Addr) (n c : Nat) (l : List En) (k : Nat) (w : World) (hp : w.cell? ⟨p, 0, none⟩ = some (.slice A n c)) (hr : Rd w A (ens l)) (hl : l.length = n) (hn : n ≤ 1000000)
    (k0 : Nat) (hk0 : k0 < l.length) (hx : l[k0].2 = true) (hk : seenN (l.take k0) = k) :
    Calls Try.prog 32 #[.pointer (some ⟨p, 0, none⟩), .int .i64 k] w fun e w' => e = .returned (nmV l[k0].1) ∧ Below w.heap.size w w' := by
  obtain ⟨w1, hw1⟩ : ∃ w1, w1 = (w.alloc (.cells #[.int .i64 k] 3)).alloc (.cells #[.int .i64 0, .int .i64 0, .int .i64 0] 35) := ⟨_, rfl⟩
  have hb1 : Below w.heap.size w w1 := by rw [hw1]; exact ((Below.refl _ _).alloc (Nat.le_refl _) _).alloc (by simp) _
  have hs1 : w1.heap.size = w.heap.size + 2 := by rw [hw1]; simp
  have hB : w1.heap[w.heap.size]? = some (.cells #[.int .i64 k] 3 (0, 0)) := by rw [hw1]; exact heap_past (heap_alloc_new w _) _
  have hC : w1.heap[w.heap.size + 1]? = some (.cells #[.int .i64 0, .int .i64 0, .int .i64 0] 35 (0, 0)) := by
    rw [hw1]
    have := heap_alloc_new (w.alloc (.cells #[.int .i64 k] 3)) (.cells #[.int .i64 0, .int .i64 0, .int .i64 0] 35)
    simpa using this
  have hkb : k ≤ 1000000 := by have := seenN_le (l.take k0); rw [List.length_take] at this; omega
  have HI := Lib.hid (indexFunc_any 39 #[.pointer (some ⟨w.heap.size, 0, none⟩)] enters_find A n c l w1 hl hn
    (fun j W => Below w.heap.size w W ∧ w1.heap.size ≤ W.heap.size ∧ W.heap[w.heap.size]? = some (.cells #[.int .i64 ((k : Int) - seenN (l.take j))] 3 (0, 0)) ∧ W.heap[w.heap.size + 1]? = some (.cells #[.int .i64 0, .int .i64 0, .int .i64 0] 35 (0, 0)))
    (fun j => decide ((k : Int) - seenN (l.take (j + 1)) < 0)) ⟨hb1, Nat.le_refl _, by simpa [seenN] using hB, hC⟩
    (fun j W h => hr.keep h.1)
    (fun j hj W h => by
      obtain ⟨h1, h2, h3, h4⟩ := h
      have hsn := seenN_snoc hj
      have hb2 : seenN (l.take j) ≤ 1000000 := by have := seenN_le (l.take j); rw [List.length_take] at this; omega
      refine (isSeen_any l[j] w.heap.size _ ((k : Int) - seenN (l.take (j + 1))) W h3 (by omega) (by omega) (by rw [hsn]; split <;> simp <;> omega)).mono fun e w' ⟨g1, g2, g3⟩ => ⟨g1, grown_below h1 g3 (by omega) (Nat.le_refl _), Nat.le_trans h2 g3.size, g2, ?_⟩
      rw [g3.block (w.heap.size + 1) (by omega) (by simp)]
      exact h4)
    k0 (by omega) (by simp only [decide_eq_true_eq]; have := seenN_snoc hk0; rw [hx, hk] at this; simp at this; omega)
    (fun j hj => by
      simp only [decide_eq_false_iff_not]
      have := seenN_mono (l := l) (show j + 1 ≤ k0 by omega)
      omega))
  have hpw : p < w.heap.size := World.block_lt_of_cell? w _ hp
  have hne : p ≠ w.heap.size := by omega
  have hne2 : p ≠ w.heap.size + 1 := by omega
  obtain ⟨b, off, rfl, hbl, c0, c1, c2, c3⟩ := en_cells hr hk0
  have CC := Lib.hid (And.intro hp (And.intro c0 (And.intro c1 c2)))
  have HK := Lib.hid (And.intro hb1 (And.intro hx hk))
  clear hr hx hk hB hC c0 c1 c2 c3 hb1
  rw [show nmV l[k0].1 = .agg #[.int .i64 l[k0].1.1, .int .i64 l[k0].1.2.1, .int .i64 l[k0].1.2.2] from rfl]
  generalize l[k0].1.1 = x1 at *
  generalize l[k0].1.2.1 = x2 at *
  generalize l[k0].1.2.2 = x3 at *
  subst hl
  go_enter Try.func32, Try.ntmps32
  go_wp2_with fail
  rw [← hw1]
  refine (HI.out).mono ?_
  rintro e w2 ⟨rfl, hb2, hs2, -, hC2⟩
  have d0 := (hb2.cell (p := ⟨p, 0, none⟩) hpw).trans CC.out.1
  have d1 := (hb2.cell (p := ⟨b, off + k0 * 4, none⟩) hbl).trans CC.out.2.1
  have d2 := (hb2.cell (p := ⟨b, off + k0 * 4 + 1, none⟩) hbl).trans CC.out.2.2.1
  have d3 := (hb2.cell (p := ⟨b, off + k0 * 4 + 2, none⟩) hbl).trans CC.out.2.2.2
  have e0 := cells_at hC2 0
  have e1 := cells_at hC2 1
  have e2 := cells_at hC2 2
  have f0 := frozen_at hC2 0
  have f1 := frozen_at hC2 1
  have f2 := frozen_at hC2 2
  have HC2 := Lib.hid hC2
  clear hC2 hw1
  have hbn : b ≠ w.heap.size + 1 := by omega
  have HQ := set3_heap (x' := .int .i64 x1) (y' := .int .i64 x2) (z' := .int .i64 x3) HC2.out
  have q0 := cells_at HQ 0
  have q1 := cells_at HQ 1
  have q2 := cells_at HQ 2
  clear HQ
  go_wp2
  exact bodyPost_ret (v := .agg #[.int .i64 x1, .int .i64 x2, .int .i64 x3]) (by simp [results, Try.results32, go_sem, q0, q1, q2]) rfl ⟨rfl, ((hb2.setCell (by show w.heap.size ≤ w.heap.size + 1; omega) _).setCell (by show w.heap.size ≤ w.heap.size + 1; omega) _).setCell (by show w.heap.size ≤ w.heap.size + 1; omega) _⟩

end Go.Proofs.Ytnbgnjpjdplocaa.Q10
