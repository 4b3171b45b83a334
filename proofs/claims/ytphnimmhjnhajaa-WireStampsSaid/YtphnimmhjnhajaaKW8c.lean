/-
  Layer 8, walks: which groups are looked at.
-/
import Derived.Test.YtphnimmhjnhajaaKW8b
namespace Go.Proofs.Ytphnimmhjnhajaa.W8
open Go.RowKit Go.PlainAid M8
set_option linter.unusedVariables false

set_option maxRecDepth 100000 in
set_option maxHeartbeats 4000000 in
theorem few_small (G : GrpR) (w : World) (hG : GrpAt w G) (b : Bool) (ht : FewTests G.xs.length G.deps.length false b false) : Calls Try.prog 7 #[G.val] w fun e w' => e = .returned (.bool ((G.g.ops.take 201).all opFew)) ∧ Below w.heap.size w w' := by
  unfold GrpR.val
  have HC := Lib.hid (grp_new w G 27)
  have HB := Lib.hid (below_box (w := w) (.cells #[.int .i64 G.t, .int .i64 G.r, .int .i64 G.n, .slice G.dA G.deps.length G.dc, .int .i64 G.ut, .int .i64 G.ur, .slice G.oA G.xs.length G.oc] 27))
  have HR := Lib.hid hG.ops
  have hlen := Nat.le_trans hG.ocap.1 hG.ocap.2
  obtain ⟨h1, h2, h3⟩ := ht
  have hgo : G.g.ops = G.xs.map OpR.o := rfl
  have HGO := Lib.hid hgo
  clear hgo
  have hEach : ∀ x ∈ G.xs, x.o.text.length ≤ 9223372036854775807 ∧ x.o.name.length ≤ 9223372036854775807 := fun x hx => ⟨(hG.each x hx).textR, (hG.each x hx).nameR⟩
  have HE := Lib.hid hEach
  clear hEach hG
  go_enter Try.func7, Try.ntmps7
  go_wp2
  obtain ⟨W1, hW1⟩ : ∃ W1, w.alloc (.cells #[.int .i64 G.t, .int .i64 G.r, .int .i64 G.n, .slice G.dA G.deps.length G.dc, .int .i64 G.ut, .int .i64 G.ur, .slice G.oA G.xs.length G.oc] 27) = W1 := ⟨_, rfl⟩
  have hsz : W1.heap.size = w.heap.size + 1 := by rw [← hW1]; simp
  rw [hW1] at HC HB ⊢
  have HR1 := Lib.hid (HR.out.keep HB.out)
  clear hW1 h1 h2 h3
  go_loopw [3] (fun v wr => ∃ k : Nat, k ≤ G.xs.length ∧ k ≤ 201 ∧ v = .int .i64 (k : Int) ∧ (∀ j (hj : j < G.xs.length), j < k → opFew G.xs[j].o = true) ∧ Below W1.heap.size W1 wr) (fun v _ => G.xs.length - (intOf v).toNat)
  case atStart => exact ⟨0, by omega, by omega, rfl, fun j _ hj => absurd hj (by omega), Below.refl _ _⟩
  case round =>
    obtain ⟨k, hk, hk2, rfl, hs, hb⟩ := hrel
    obtain ⟨c0, c1, c2, c3, c4, c5, c6⟩ := HC.out.keep hb (by omega)
    clear c0 c1 c2 c3 c4 c5
    by_cases hlt : k < G.xs.length
    · by_cases h200 : k ≤ 200
      · have hR := HR1.out.keep hb
        obtain ⟨q, off, hA, hbl, hcl⟩ := op_cells hR hlt
        have hts := HE.out _ (List.getElem_mem hlt)
        have HS := Lib.hid hs
        rw [hA] at c6 ⊢
        clear hR hs hA
        obtain ⟨x, hxx⟩ : ∃ x, G.xs[k] = x := ⟨_, rfl⟩
        have HX := Lib.hid hxx
        rw [hxx] at hcl hts
        clear hxx
        obtain ⟨bx, hbx⟩ : ∃ bx, opFew x.o = bx := ⟨_, rfl⟩
        have HBX := Lib.hid hbx
        clear hbx
        have hra := Lib.hid (range_op hcl)
        obtain ⟨d0, d1, d2, d3, d4, d5, d6, d7, d8, d9, d10, d11, d12, d13, d14, d15, d16, d17⟩ := op_box (heap_alloc_new wr (.cells x.cells.toArray 44))
        clear hcl d0 d1 d2 d3 d4 d5 d6 d8 d9 d10 d11 d12 d13 d14 d15
        go_wp2_with (first | (refine wpList_load_mid rfl 44 (.tmp 35) rfl q (off + k * 18) rfl x.cells _ hra.out Try.underlying44 rfl (zero_of_info info_op).2 ?_) | (refine wpList_store_fresh rfl 44 (.tmp 4) (.tmp 36) rfl _ x.cells.toArray rfl rfl (zero_of_info info_op).2 rfl (cells_one x) ?_))
        all_goals have e1 := bs_size x.o.text
        all_goals have e2 := bs_size x.o.name
        all_goals first
          | (have hx : opFew x.o = true := by
               clear HS HBX
               rename_i hx0 _ _
               (try simp at hx0)
               unfold opFew
               simp only [Bool.and_eq_true, Bool.or_eq_true, decide_eq_true_eq]
               omega
             have hs2 : ∀ j (hj : j < G.xs.length), j < k + 1 → opFew G.xs[j].o = true := fun j hj h => by
               by_cases h2 : j < k
               · exact HS.out j hj h2
               · obtain rfl : j = k := by omega
                 rw [HX.out]
                 exact hx
             exact ⟨⟨k + 1, by omega, by omega, by go_num, hs2, hb.alloc hb.size _⟩, by simp [intOf]; omega⟩)
          | (have hx : opFew x.o = false := by
               clear HS HBX
               rename_i hx0 _ _
               (try simp at hx0)
               cases hq : opFew x.o with
               | false => rfl
               | true =>
                 unfold opFew at hq
                 simp only [Bool.and_eq_true, Bool.or_eq_true, decide_eq_true_eq] at hq
                 omega
             have hn := not_take hlt h200 (by rw [HX.out]; exact hx)
             go_ret
             exact ⟨by rw [HGO.out, hn]; rfl, HB.out.trans ((hb.alloc hb.size _).mono (by omega))⟩)
      · have hall := all_take hs (.inl (by omega))
        go_wp2
        go_ret
        exact ⟨by rw [HGO.out, hall]; rfl, HB.out.trans (hb.mono (by omega))⟩
    · have hall := all_take hs (.inr (by omega))
      go_wp2
      go_ret
      exact ⟨by rw [HGO.out, hall]; rfl, HB.out.trans (hb.mono (by omega))⟩

set_option maxRecDepth 100000 in
set_option maxHeartbeats 4000000 in
theorem few_great (G : GrpR) (w : World) (hG : GrpAt w G) (ht : FewTests G.xs.length G.deps.length true false false) : Calls Try.prog 7 #[G.val] w fun e w' => e = .returned (.bool ((G.g.ops.take 201).all opFew)) ∧ Below w.heap.size w w' := by
  unfold GrpR.val
  have HC := Lib.hid (grp_new w G 27)
  have HB := Lib.hid (below_box (w := w) (.cells #[.int .i64 G.t, .int .i64 G.r, .int .i64 G.n, .slice G.dA G.deps.length G.dc, .int .i64 G.ut, .int .i64 G.ur, .slice G.oA G.xs.length G.oc] 27))
  have HR := Lib.hid hG.ops
  have hlen := Nat.le_trans hG.ocap.1 hG.ocap.2
  obtain ⟨h1, h2, h3⟩ := ht
  have hgo : G.g.ops = G.xs.map OpR.o := rfl
  have HGO := Lib.hid hgo
  clear hgo
  have hEach : ∀ x ∈ G.xs, x.o.text.length ≤ 9223372036854775807 ∧ x.o.name.length ≤ 9223372036854775807 := fun x hx => ⟨(hG.each x hx).textR, (hG.each x hx).nameR⟩
  have HE := Lib.hid hEach
  clear hEach hG
  go_enter Try.func7, Try.ntmps7
  go_wp2
  obtain ⟨W1, hW1⟩ : ∃ W1, w.alloc (.cells #[.int .i64 G.t, .int .i64 G.r, .int .i64 G.n, .slice G.dA G.deps.length G.dc, .int .i64 G.ut, .int .i64 G.ur, .slice G.oA G.xs.length G.oc] 27) = W1 := ⟨_, rfl⟩
  have hsz : W1.heap.size = w.heap.size + 1 := by rw [← hW1]; simp
  rw [hW1] at HC HB ⊢
  have HR1 := Lib.hid (HR.out.keep HB.out)
  clear hW1 h1 h2 h3
  go_loopw [3] (fun v wr => ∃ k : Nat, k ≤ G.xs.length ∧ k ≤ 201 ∧ v = .int .i64 (k : Int) ∧ (∀ j (hj : j < G.xs.length), j < k → opFew G.xs[j].o = true) ∧ Below W1.heap.size W1 wr) (fun v _ => G.xs.length - (intOf v).toNat)
  case atStart => exact ⟨0, by omega, by omega, rfl, fun j _ hj => absurd hj (by omega), Below.refl _ _⟩
  case round =>
    obtain ⟨k, hk, hk2, rfl, hs, hb⟩ := hrel
    obtain ⟨c0, c1, c2, c3, c4, c5, c6⟩ := HC.out.keep hb (by omega)
    clear c0 c1 c2 c3 c4 c5
    by_cases hlt : k < G.xs.length
    · by_cases h200 : k ≤ 200
      · have hR := HR1.out.keep hb
        obtain ⟨q, off, hA, hbl, hcl⟩ := op_cells hR hlt
        have hts := HE.out _ (List.getElem_mem hlt)
        have HS := Lib.hid hs
        rw [hA] at c6 ⊢
        clear hR hs hA
        obtain ⟨x, hxx⟩ : ∃ x, G.xs[k] = x := ⟨_, rfl⟩
        have HX := Lib.hid hxx
        rw [hxx] at hcl hts
        clear hxx
        obtain ⟨bx, hbx⟩ : ∃ bx, opFew x.o = bx := ⟨_, rfl⟩
        have HBX := Lib.hid hbx
        clear hbx
        have hra := Lib.hid (range_op hcl)
        obtain ⟨d0, d1, d2, d3, d4, d5, d6, d7, d8, d9, d10, d11, d12, d13, d14, d15, d16, d17⟩ := op_box (heap_alloc_new wr (.cells x.cells.toArray 44))
        clear hcl d0 d1 d2 d3 d4 d5 d6 d8 d9 d10 d11 d12 d13 d14 d15
        go_wp2_with (first | (refine wpList_load_mid rfl 44 (.tmp 35) rfl q (off + k * 18) rfl x.cells _ hra.out Try.underlying44 rfl (zero_of_info info_op).2 ?_) | (refine wpList_store_fresh rfl 44 (.tmp 4) (.tmp 36) rfl _ x.cells.toArray rfl rfl (zero_of_info info_op).2 rfl (cells_one x) ?_))
        all_goals have e1 := bs_size x.o.text
        all_goals have e2 := bs_size x.o.name
        all_goals first
          | (have hx : opFew x.o = true := by
               clear HS HBX
               rename_i hx0 _ _
               (try simp at hx0)
               unfold opFew
               simp only [Bool.and_eq_true, Bool.or_eq_true, decide_eq_true_eq]
               omega
             have hs2 : ∀ j (hj : j < G.xs.length), j < k + 1 → opFew G.xs[j].o = true := fun j hj h => by
               by_cases h2 : j < k
               · exact HS.out j hj h2
               · obtain rfl : j = k := by omega
                 rw [HX.out]
                 exact hx
             exact ⟨⟨k + 1, by omega, by omega, by go_num, hs2, hb.alloc hb.size _⟩, by simp [intOf]; omega⟩)
          | (have hx : opFew x.o = false := by
               clear HS HBX
               rename_i hx0 _ _
               (try simp at hx0)
               cases hq : opFew x.o with
               | false => rfl
               | true =>
                 unfold opFew at hq
                 simp only [Bool.and_eq_true, Bool.or_eq_true, decide_eq_true_eq] at hq
                 omega
             have hn := not_take hlt h200 (by rw [HX.out]; exact hx)
             go_ret
             exact ⟨by rw [HGO.out, hn]; rfl, HB.out.trans ((hb.alloc hb.size _).mono (by omega))⟩)
      · have hall := all_take hs (.inl (by omega))
        go_wp2
        go_ret
        exact ⟨by rw [HGO.out, hall]; rfl, HB.out.trans (hb.mono (by omega))⟩
    · have hall := all_take hs (.inr (by omega))
      go_wp2
      go_ret
      exact ⟨by rw [HGO.out, hall]; rfl, HB.out.trans (hb.mono (by omega))⟩

theorem few_any (G : GrpR) (w : World) (hG : GrpAt w G) : Calls Try.prog 7 #[G.val] w fun e w' => e = .returned (.bool (fewB G.g)) ∧ Below w.heap.size w w' := by
  have ht := fewTests G.xs.length G.deps.length
  have hol : G.g.ops.length = G.xs.length := by simp [GrpR.g]
  cases h : fewHead G.xs.length G.deps.length with
  | true =>
    rw [fewB_head (g := G.g) (by rw [hol]; exact h)]
    exact few_head G w _ _ _ ht h
  | false =>
    rw [fewB_rest (g := G.g) (by rw [hol]; exact h)]
    unfold fewHead at h
    rw [Bool.or_eq_false_iff, Bool.and_eq_false_iff] at h
    rw [h.2] at ht
    cases ha : decide (60 < G.xs.length) with
    | false => rw [ha] at ht; exact few_small G w hG _ ht
    | true =>
      have hb : decide (G.xs.length ≤ 200) = false := by
        rcases h.1 with h1 | h1
        · rw [ha] at h1; cases h1
        · exact h1
      rw [ha, hb] at ht
      exact few_great G w hG ht

end Go.Proofs.Ytphnimmhjnhajaa.W8

