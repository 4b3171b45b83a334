/-
  Layer 8, walks of the program: all operations of a group.
-/
import Derived.Test.YtphnimmhjnhajaaKW9f
import Derived.Test.YtphnimmhjnhajaaKW9g
import Derived.Test.YtphnimmhjnhajaaKW9h
import Derived.Test.YtphnimmhjnhajaaKW9j
import Derived.Deep.MidRow
namespace Go.Proofs.Ytphnimmhjnhajaa.W8
open Go.RowKit Go.PlainAid M8
set_option linter.unusedVariables false

theorem more_any (x : OpR) (w : World) (hk : x.o.kind = 0 ∨ x.o.kind = 1 ∨ x.o.kind = 2 ∨ x.o.kind = 3 ∨ x.o.kind = 4) : Calls Try.prog 60 #[.agg x.cells.toArray] w fun e w' => e = .returned (.bool (!bareK x.o)) ∧ Below w.heap.size w w' := by
  rcases hk with hk | hk | hk | hk | hk
  · have := more_make x w hk; unfold bareK; simp only [hk]; exact this
  · have := more_move x w hk; unfold bareK; simp only [hk]; exact this
  · have := more_drop x w hk; unfold bareK; simp only [hk]; exact this
  · have := more_ins x w hk; unfold bareK; simp only [hk]; exact this
  · have := more_erase x w hk; unfold bareK; simp only [hk]; exact this

/-- What the loop over a group's operations keeps: how many ids there are so far, and what is left to be looked at. -/
def OpsRel (G : GrpR) (w : World) (i : Value) (wr : World) : Prop :=
  ∃ (k : Nat) (kk : Nat), k ≤ G.xs.length ∧ i = .int .i64 (k : Int) ∧ kk ≤ 2000 * k ∧ Hid (opsB G.g 0 G.g.ops = opsB G.g (kk : Int) (G.g.ops.drop k)) ∧ Tri wr (w.heap.size + 1) 40 G.t G.r (kk : Int) ∧ Below w.heap.size w wr
theorem ops_at (G : GrpR) {k : Nat} (h : k < G.xs.length) : G.g.ops.drop k = G.xs[k].o :: G.g.ops.drop (k + 1) := by
  show (G.xs.map OpR.o).drop k = G.xs[k].o :: (G.xs.map OpR.o).drop (k + 1)
  rw [List.drop_eq_getElem_cons (by rw [List.length_map]; exact h), List.getElem_map]
theorem ops_none {G : GrpR} {k kk : Nat} {x : OpR} (hk : k < G.xs.length) (hx : G.xs[k] = x) (h : opsB G.g 0 G.g.ops = opsB G.g (kk : Int) (G.g.ops.drop k)) (hn : opN G.g (kk : Int) x.o = none) : opsB G.g 0 G.g.ops = false := by
  rw [h, ops_at G hk, hx]
  unfold opsB
  rw [hn]
theorem ops_some {G : GrpR} {k kk n : Nat} {x : OpR} (hk : k < G.xs.length) (hx : G.xs[k] = x) (h : opsB G.g 0 G.g.ops = opsB G.g (kk : Int) (G.g.ops.drop k)) (hn : opN G.g (kk : Int) x.o = some n) : opsB G.g 0 G.g.ops = opsB G.g ((kk + n : Nat) : Int) (G.g.ops.drop (k + 1)) := by
  rw [h, ops_at G hk, hx]
  conv => lhs; unfold opsB
  rw [hn]
  simp
theorem ops_done {G : GrpR} {kk : Nat} (h : opsB G.g 0 G.g.ops = opsB G.g (kk : Int) (G.g.ops.drop G.xs.length)) : opsB G.g 0 G.g.ops = true := by
  have h1 : G.g.ops.length = G.xs.length := by show (G.xs.map OpR.o).length = _; rw [List.length_map]
  rw [h, ← h1, List.drop_length]
  rfl

set_option maxRecDepth 100000 in
set_option maxHeartbeats 1000000 in
theorem ops_few (G : GrpR) (w : World) (hn : G.xs.length = 0) : Calls Try.prog 35 #[.agg G.cells.toArray] w fun e w' => e = .returned (.bool false) ∧ Below w.heap.size w w' := by
  have B0 := Lib.hid (below_box (w := w) (.cells G.cells.toArray 27))
  obtain ⟨c0, c1, c2, c3, c4, c5, c6⟩ := grp_box (G := G) (heap_alloc_new w (.cells G.cells.toArray 27))
  have h1 : decide ((G.xs.length : Int) < 1) = true := decide_eq_true (by omega)
  have h2 : decide (G.xs.length < 1) = true := decide_eq_true (by omega)
  have h3 : G.xs.length < 1 := by omega
  clear hn c0 c1 c2 c3 c4 c5
  go_enter Try.func35, Try.ntmps35
  go_wp2
  go_ret
  exact ⟨rfl, B0.out⟩

set_option maxRecDepth 100000 in
set_option maxHeartbeats 1000000 in
theorem ops_many (G : GrpR) (w : World) (hn : 200 < G.xs.length) : Calls Try.prog 35 #[.agg G.cells.toArray] w fun e w' => e = .returned (.bool false) ∧ Below w.heap.size w w' := by
  have B0 := Lib.hid (below_box (w := w) (.cells G.cells.toArray 27))
  obtain ⟨c0, c1, c2, c3, c4, c5, c6⟩ := grp_box (G := G) (heap_alloc_new w (.cells G.cells.toArray 27))
  have h1 : decide ((G.xs.length : Int) < 1) = false := decide_eq_false (by omega)
  have h2 : decide (G.xs.length < 1) = false := decide_eq_false (by omega)
  have h3 : ¬ G.xs.length < 1 := by omega
  have h4 : decide ((200 : Int) < (G.xs.length : Int)) = true := decide_eq_true (by omega)
  have h5 : decide (200 < G.xs.length) = true := decide_eq_true (by omega)
  have h6 : 200 < G.xs.length := by omega
  clear hn c0 c1 c2 c3 c4 c5
  go_enter Try.func35, Try.ntmps35
  go_wp2
  go_ret
  exact ⟨rfl, B0.out⟩

set_option maxRecDepth 100000 in
set_option maxHeartbeats 8000000 in
theorem ops_in (G : GrpR) (w : World) (hG : GrpAt w G) (h0 : 1 ≤ G.xs.length) (hn : G.xs.length ≤ 200) (hT : ∀ x ∈ G.xs, x.o.text.length ≤ 1099511627776) : Calls Try.prog 35 #[.agg G.cells.toArray] w fun e w' => e = .returned (.bool (opsB G.g 0 G.g.ops)) ∧ Below w.heap.size w w' := by
  have HR := Lib.hid hG.ops
  have HE := Lib.hid hG.each
  have HT := Lib.hid hT
  have hg0 := grp_box (G := G) (heap_alloc_new w (.cells G.cells.toArray 27))
  obtain ⟨v0, v1, v2, v3, v4, v5, v6⟩ := hg0.keep (below_box (.cells #[.int .i64 G.t, .int .i64 G.r, .int .i64 0] 40)) (by simp)
  clear v0 v1 v2 v3 v4 v5
  obtain ⟨c0, c1, c2, c3, c4, c5, c6⟩ := hg0
  have h1 : decide ((G.xs.length : Int) < 1) = false := decide_eq_false (by omega)
  have h2 : decide (G.xs.length < 1) = false := decide_eq_false (by omega)
  have h3 : ¬ G.xs.length < 1 := by omega
  have h4 : decide ((200 : Int) < (G.xs.length : Int)) = false := decide_eq_false (by omega)
  have h5 : decide (200 < G.xs.length) = false := decide_eq_false (by omega)
  have h6 : ¬ 200 < G.xs.length := by omega
  have hT0 : Tri ((w.alloc (.cells G.cells.toArray 27)).alloc (.cells #[.int .i64 G.t, .int .i64 G.r, .int .i64 0] 40)) (w.heap.size + 1) 40 G.t G.r 0 := by
    have h := Tri.new (w.alloc (.cells G.cells.toArray 27)) 40 G.t G.r 0
    rw [size_box] at h
    exact h
  have R0 : Hid (OpsRel G w (.int .i64 0) ((w.alloc (.cells G.cells.toArray 27)).alloc (.cells #[.int .i64 G.t, .int .i64 G.r, .int .i64 0] 40))) := ⟨0, 0, by omega, rfl, by omega, rfl, hT0, below_box2 _ _⟩
  have HN := Lib.hid hn
  clear hG hT hT0 hn h0
  go_enter Try.func35, Try.ntmps35
  go_wp2
  clear c0 c1 c2 c3 c4 c5 c6 v6 h1 h2 h3 h4 h5 h6
  go_loopw [24] (fun v wr => OpsRel G w v wr) (fun v _ => G.xs.length - (intOf v).toNat)
  case atStart => exact R0.out
  case round =>
    clear R0
    obtain ⟨k, kk, hk, rfl, hkk, HO, hT, hb⟩ := hrel
    have hn200 := HN.out
    by_cases hlt : k < G.xs.length
    · obtain ⟨q, off, hA, hq, hcl⟩ := op_cells (HR.out.keep hb) hlt
      obtain ⟨x, hx⟩ : ∃ x, G.xs[k] = x := ⟨_, rfl⟩
      have HX := Lib.hid hx
      rw [hx] at hcl
      rw [hA]
      have hOx0 : OpAt wr x := by rw [← hx]; exact (HE.out _ (List.getElem_mem hlt)).keep hb
      have hzx0 : x.o.text.length ≤ 1099511627776 := by rw [← hx]; exact HT.out _ (List.getElem_mem hlt)
      have hra := Lib.hid (range_op hcl)
      have hnew := op_new wr x
      have hrb : Hid ((wr.alloc (.cells x.cells.toArray 44)).rangeAt wr.heap.size 0 x.cells) := range_op (by
        obtain ⟨d0, d1, d2, d3, d4, d5, d6, d7, d8, d9, d10, d11, d12, d13, d14, d15, d16, d17⟩ := hnew.2
        unfold OpCells
        simp only [Nat.zero_add]
        exact ⟨d0, d1, d2, d3, d4, d5, d6, d7, d8, d9, d10, d11, d12, d13, d14, d15, d16, d17⟩)
      have hOx := Lib.hid (hOx0.keep (below_box (.cells x.cells.toArray 44)))
      have hTb := hT.keep (below_box (.cells x.cells.toArray 44))
      have HB := Lib.hid hb
      have HNW := Lib.hid hnew.2
      have hszb : (wr.alloc (.cells x.cells.toArray 44)).heap.size = wr.heap.size + 1 := by simp
      have hlt2 := hT.lt
      have hzx := Lib.hid hzx0
      have hk0 : (0 : Int) ≤ (k : Int) := by omega
      have hk1 : (k : Int) < (G.xs.length : Int) := by omega
      obtain ⟨t0, t1, t2⟩ := hTb.cells
      have HTB := Lib.hid hTb
      clear hx hcl hA hOx0 hnew hT hb hTb hzx0
      go_wp2_with (first | (refine wpList_load_mid rfl 44 (.tmp 26) rfl q (off + k * 18) rfl x.cells _ hra.out Try.underlying44 rfl (zero_of_info info_op).2 ?_) | (refine wpList_store_fresh rfl 44 (.tmp 5) (.tmp 27) rfl _ x.cells.toArray rfl rfl (zero_of_info info_op).2 rfl (cells_one x) ?_) | (refine wpList_load_mid rfl 44 (.tmp 5) rfl wr.heap.size 0 rfl x.cells _ hrb.out Try.underlying44 rfl (zero_of_info info_op).2 ?_))
      refine (born_any G.g (kk : Int) x _ hOx.out hzx.out).mono ?_
      rintro e w2 ⟨⟨n, b, rfl, hbo⟩, hb2⟩
      have HBO := Lib.hid hbo
      have ho2 := HNW.out.keep hb2 (by rw [hszb]; omega)
      have hT2 := HTB.out.keep hb2
      have hsz2 := hb2.size
      rw [hszb] at hsz2
      have HB2 := Lib.hid (Below.trans HB.out (((below_box (.cells x.cells.toArray 44)).trans (hb2.mono (by simp))).mono HB.out.size))
      have HO2 := Lib.hid ho2
      have HT2 := Lib.hid hT2
      clear t0 t1 t2 hbo hb2 hT2 hra hrb HNW HTB hOx hszb ho2
      cases b
      · have hnone : opN G.g (kk : Int) x.o = none := by
          rcases HBO.out with h | h
          · exact h.2
          · cases h.1
        have hf := ops_none hlt HX.out HO.out hnone
        have HF := Lib.hid hf
        clear hnone hf
        go_wp2
        go_ret
        exact ⟨by rw [HF.out]; rfl, HB2.out⟩
      · obtain ⟨d0, d1, d2, d3, d4, d5, d6, d7, d8, d9, d10, d11, d12, d13, d14, d15, d16, d17⟩ := HO2.out
        have hkind : x.o.kind = 0 ∨ x.o.kind = 1 ∨ x.o.kind = 2 ∨ x.o.kind = 3 ∨ x.o.kind = 4 := by
          rcases HBO.out with h | h
          · cases h.1
          · exact h.2.2.1
        have hn2 : n ≤ 2000 := by
          rcases HBO.out with h | h
          · cases h.1
          · exact h.2.1
        have hopn : opN G.g (kk : Int) x.o = if bareK x.o = true then some n else none := by
          rcases HBO.out with h | h
          · cases h.1
          · exact h.2.2.2
        obtain ⟨m, hm⟩ : ∃ m, bareK x.o = m := ⟨_, rfl⟩
        have HM := Lib.hid hm
        have HOPN := Lib.hid hopn
        have HKD := Lib.hid hkind
        clear hm hopn hkind HBO
        go_wp2_with fail
        refine (more_any x _ HKD.out).mono ?_
        rintro e w3 ⟨rfl, hb3⟩
        rw [HM.out]
        have HB3 := Lib.hid (Below.trans HB2.out (hb3.mono (by have := HB.out.size; omega)))
        have hT3 := HT2.out.keep hb3
        clear d0 d1 d2 d3 d4 d5 d6 d7 d8 d9 d10 d11 d12 d13 d14 d15 d16 d17 hb3
        cases m
        · have hf := ops_none hlt HX.out HO.out (by rw [HOPN.out, HM.out]; rfl)
          have HF := Lib.hid hf
          clear hf hT3
          go_wp2
          go_ret
          exact ⟨by rw [HF.out]; rfl, HB3.out⟩
        · have hf := Lib.hid (ops_some hlt HX.out HO.out (by rw [HOPN.out, HM.out]; rfl))
          obtain ⟨t0, t1, t2⟩ := hT3.cells
          have f2 := frozen_of_row w3 (w.heap.size + 1) 2 _ 40 hT3
          have hs := Lib.hid (heap_setCell_same w3 (w.heap.size + 1) 2 _ 40 (.int .i64 ((kk + n : Nat) : Int)) hT3)
          have hwk : IntKind.i64.wrap ((kk : Int) + (n : Int)) = ((kk + n : Nat) : Int) := by rw [IntWalk.i64_in _ (by omega)]; simp
          have hbf := Lib.hid (HB3.out.setCell (p := ⟨w.heap.size + 1, 2, none⟩) (Nat.le_succ _) (.int .i64 ((kk + n : Nat) : Int)))
          clear hT3
          go_wp2
          go_roundw
          case rel => exact ⟨k + 1, kk + n, by omega, by go_num, by omega, hf.out, hs.out, hbf.out⟩
          case measure => simp [intOf]; omega
    · obtain rfl : k = G.xs.length := by omega
      have hf := Lib.hid (ops_done HO.out)
      clear hT
      go_wp2
      go_ret
      exact ⟨by rw [hf.out]; rfl, hb⟩

/-- Are there as many operations as there may be, and may they all be? -/
theorem opsMay_any (G : GrpR) (w : World) (hG : GrpAt w G) (hT : G.xs.length ≤ 200 → ∀ x ∈ G.xs, x.o.text.length ≤ 1099511627776) : Calls Try.prog 35 #[.agg G.cells.toArray] w fun e w' => e = .returned (.bool (decide (1 ≤ G.xs.length) && decide (G.xs.length ≤ 200) && opsB G.g 0 G.g.ops)) ∧ Below w.heap.size w w' := by
  by_cases h0 : 1 ≤ G.xs.length
  · by_cases hn : G.xs.length ≤ 200
    · rw [decide_eq_true h0, decide_eq_true hn, Bool.true_and, Bool.true_and]
      exact ops_in G w hG h0 hn (hT hn)
    · rw [decide_eq_true h0, decide_eq_false hn, Bool.true_and, Bool.false_and]
      exact ops_many G w (by omega)
  · rw [decide_eq_false h0, Bool.false_and, Bool.false_and]
    exact ops_few G w (by omega)

end Go.Proofs.Ytphnimmhjnhajaa.W8

