/-
  Layer 8, walks: shift.
-/
import Derived.Test.YtphnimmhjnhajaaKW10t
namespace Go.Proofs.Ytphnimmhjnhajaa.W8
open Go.RowKit Go.PlainAid M8 V1
set_option linter.unusedVariables false

/-- An id with another stamp, if it has one. -/
def shX (a b : Int × Int) (x : Id3) : Id3 := if x.1 = a.1 ∧ x.2.1 = a.2 then (b.1, b.2, x.2.2) else x
set_option maxRecDepth 100000 in
set_option maxHeartbeats 4000000 in
theorem shift_any (x : Id3) (a b : Int × Int) (w : World) : Calls Try.prog 19 #[.agg #[.int .i64 x.1, .int .i64 x.2.1, .int .i64 x.2.2], .agg #[.int .i64 a.1, .int .i64 a.2], .agg #[.int .i64 b.1, .int .i64 b.2]] w fun e w' => e = .returned (.agg #[.int .i64 (shX a b x).1, .int .i64 (shX a b x).2.1, .int .i64 (shX a b x).2.2]) ∧ Below w.heap.size w w' := by
  obtain ⟨x1, x2, x3⟩ := x
  obtain ⟨a1, a2⟩ := a
  obtain ⟨b1, b2⟩ := b
  unfold shX
  simp only
  have hbl : ∀ (o1 o2 o3 o4 : Obj), Below w.heap.size w ((((w.alloc o1).alloc o2).alloc o3).alloc o4) := fun o1 o2 o3 o4 => chain (chain (chain (below_box o1) (below_box o2)) (below_box o3)) (below_box o4)
  have HBL := Lib.hid hbl
  have HRG : Hid (∀ (o1 o2 o3 : Obj) (cs : List Value), ((((w.alloc o1).alloc o2).alloc o3).alloc (.cells cs.toArray 40)).rangeAt (w.heap.size + 1 + 1 + 1) 0 cs) := fun o1 o2 o3 cs => by
    have h := heap_alloc_new (((w.alloc o1).alloc o2).alloc o3) (.cells cs.toArray 40)
    simp only [World.size_alloc] at h
    exact range_block h
  clear hbl
  by_cases h1 : x1 = a1
  · subst h1
    by_cases h2 : x2 = a2
    · subst h2
      rw [if_pos ⟨rfl, rfl⟩]
      go_enter Try.func19, Try.ntmps19
      go_wp2
      exact bodyPost_ret (results_row rfl _ _ _ (w.heap.size + 1 + 1 + 1) 0 [.int .i64 b1, .int .i64 b2, .int .i64 x3] _ rfl (HRG.out _ _ _ _) Try.underlying40 rfl (by kernel_rfl)) rfl ⟨rfl, HBL.out _ _ _ _⟩
    · rw [if_neg (fun h => h2 h.2)]
      go_enter Try.func19, Try.ntmps19
      go_wp2
      exact bodyPost_ret (results_row rfl _ _ _ (w.heap.size + 1 + 1 + 1) 0 [.int .i64 x1, .int .i64 x2, .int .i64 x3] _ rfl (HRG.out _ _ _ _) Try.underlying40 rfl (by kernel_rfl)) rfl ⟨rfl, HBL.out _ _ _ _⟩
  · rw [if_neg (fun h => h1 h.1)]
    go_enter Try.func19, Try.ntmps19
    go_wp2
    exact bodyPost_ret (results_row rfl _ _ _ (w.heap.size + 1 + 1 + 1) 0 [.int .i64 x1, .int .i64 x2, .int .i64 x3] _ rfl (HRG.out _ _ _ _) Try.underlying40 rfl (by kernel_rfl)) rfl ⟨rfl, HBL.out _ _ _ _⟩

end Go.Proofs.Ytphnimmhjnhajaa.W8

