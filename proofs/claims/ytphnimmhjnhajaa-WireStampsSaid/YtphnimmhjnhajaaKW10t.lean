/-
  Layer 8, laws: WireApart.
-/
import Derived.Test.YtphnimmhjnhajaaKW10s
namespace Go.Proofs.Ytphnimmhjnhajaa.W8
open Go.RowKit Go.PlainAid M8 V1
set_option linter.unusedVariables false

theorem i64_and65535 (n : Int) : bits .and .i64 n 65535 = n % 65536 := by
  have h127 : (BitVec.ofInt 64 65535).toNat = 2 ^ 16 - 1 := by decide
  have key : (BitVec.ofInt 64 n &&& BitVec.ofInt 64 65535).toNat = (n % ((2 ^ 64 : Nat) : Int)).toNat % 2 ^ 16 := by
    rw [BitVec.toNat_and, BitVec.toNat_ofInt, h127, Nat.and_two_pow_sub_one_eq_mod]
  show IntKind.i64.wrap ((BitVec.ofInt 64 n &&& BitVec.ofInt 64 65535).toNat : Nat) = n % 65536
  rw [key, IntKind.wrap_i64]
  omega
theorem beq_dec (t u : List UInt8) : (t == u) = decide (t = u) := by
  by_cases h : t = u
  · rw [decide_eq_true h]; exact beq_iff_eq.2 h
  · rw [decide_eq_false h]; exact beq_eq_false_iff_ne.2 h
/-- Two groups boxed by a law, over its calls. -/
structure BX (w : World) (G H : GrpR) (a : World) : Prop where
  g : GrpCells a w.heap.size G
  h : GrpCells a (w.heap.size + 1) H
  l : w.heap.size + 1 < a.heap.size
  b : Below w.heap.size w a
theorem BX.keep {w a a' : World} {G H : GrpR} (h : BX w G H a) (hb : Below a.heap.size a a') : BX w G H a' :=
  ⟨h.g.keep hb (by have := h.l; omega), h.h.keep hb h.l, Nat.lt_of_lt_of_le h.l hb.size, chain h.b hb⟩
theorem BX.new (w : World) (G H : GrpR) : BX w G H ((w.alloc (.cells G.cells.toArray 27)).alloc (.cells H.cells.toArray 27)) := by
  obtain ⟨h1, h2, h3⟩ := two_grps w G H
  exact ⟨h2, h3, by simp only [World.size_alloc]; omega, h1⟩
set_option maxRecDepth 100000 in
set_option maxHeartbeats 16000000 in
theorem lawApart (w : World) (G : GrpR) (hG : GrpAt w G) (H : GrpR) (hH : GrpAt w H) (cut : Int) (_ : -9223372036854775808 ≤ cut) (_ : cut ≤ 9223372036854775807) : Calls Try.prog 4 #[.agg G.cells.toArray, .agg H.cells.toArray, .int .i64 cut] w fun e w' => e = .returned (.bool true) ∧ Below w.heap.size w w' := by
  obtain ⟨c, e1, hc1⟩ : ∃ c : Nat, bits .and .i64 cut 65535 = (c : Int) ∧ c ≤ 65535 := by
    rw [i64_and65535]
    exact ⟨(cut % 65536).toNat, by omega, by omega⟩
  have hx0 := BX.new w G H
  have HX0 := Lib.hid hx0
  have HG0 := Lib.hid hG
  have HH0 := Lib.hid hH
  clear hx0 hG hH
  go_enter Try.func4, Try.ntmps4
  go_wp2_with fail
  refine (awake_any _).mono ?_
  rintro e w1 ⟨rfl, hb1⟩
  have HX1 := Lib.hid (HX0.out.keep hb1)
  obtain ⟨⟨d0, d1, d2, d3, d4, d5, d6⟩, ⟨c0, c1, c2, c3, c4, c5, c6⟩, _, _⟩ := HX1.out
  have HF1 : Hid (Calls Try.prog 7 #[.agg #[.int .i64 G.t, .int .i64 G.r, .int .i64 G.n, .slice G.dA G.deps.length G.dc, .int .i64 G.ut, .int .i64 G.ur, .slice G.oA G.xs.length G.oc]] w1 fun e w' => e = .returned (.bool (fewB G.g)) ∧ Below w1.heap.size w1 w') := few_any G w1 (HG0.out.keep HX1.out.b)
  clear hb1
  cases hfG : fewB G.g with
  | false =>
    rw [hfG] at HF1
    clear hfG
    go_wp2_with fail
    refine HF1.out.mono ?_
    rintro e w2 ⟨rfl, hb2⟩
    have HZ := Lib.hid (HX1.out.keep hb2).b
    clear hb2
    go_wp2
    go_ret
    exact ⟨rfl, HZ.out⟩
  | true =>
    rw [hfG] at HF1
    have HfG := Lib.hid hfG
    clear hfG
    go_wp2_with fail
    refine HF1.out.mono ?_
    rintro e w2 ⟨rfl, hb2⟩
    have HX2 := Lib.hid (HX1.out.keep hb2)
    clear d0 d1 d2 d3 d4 d5 d6 c0 c1 c2 c3 c4 c5 c6
    obtain ⟨⟨d0, d1, d2, d3, d4, d5, d6⟩, ⟨c0, c1, c2, c3, c4, c5, c6⟩, _, _⟩ := HX2.out
    have HF2 : Hid (Calls Try.prog 7 #[.agg #[.int .i64 H.t, .int .i64 H.r, .int .i64 H.n, .slice H.dA H.deps.length H.dc, .int .i64 H.ut, .int .i64 H.ur, .slice H.oA H.xs.length H.oc]] w2 fun e w' => e = .returned (.bool (fewB H.g)) ∧ Below w2.heap.size w2 w') := few_any H w2 (HH0.out.keep HX2.out.b)
    clear hb2
    cases hfH : fewB H.g with
    | false =>
      rw [hfH] at HF2
      clear hfH
      go_wp2_with fail
      refine HF2.out.mono ?_
      rintro e w3 ⟨rfl, hb3⟩
      have HZ := Lib.hid (HX2.out.keep hb3).b
      clear hb3
      go_wp2
      go_ret
      exact ⟨rfl, HZ.out⟩
    | true =>
      rw [hfH] at HF2
      have HfH := Lib.hid hfH
      clear hfH
      go_wp2_with fail
      refine HF2.out.mono ?_
      rintro e w3 ⟨rfl, hb3⟩
      have HX3 := Lib.hid (HX2.out.keep hb3)
      clear d0 d1 d2 d3 d4 d5 d6 c0 c1 c2 c3 c4 c5 c6 hb3
      obtain ⟨⟨d0, d1, d2, d3, d4, d5, d6⟩, ⟨c0, c1, c2, c3, c4, c5, c6⟩, _, _⟩ := HX3.out
      cases hcG : check G.g with
      | false =>
        have HE : Hid (Calls Try.prog 8 #[.agg #[.int .i64 G.t, .int .i64 G.r, .int .i64 G.n, .slice G.dA G.deps.length G.dc, .int .i64 G.ut, .int .i64 G.ur, .slice G.oA G.xs.length G.oc]] w3 fun e w' => e = .returned (.tuple #[.string ⟨#[]⟩, .int .i64 80]) ∧ Below w3.heap.size w3 w') := enc_no G w3 (HG0.out.keep HX3.out.b) (few_fit HfG.out) hcG
        clear hcG
        go_wp2_with fail
        refine HE.out.mono ?_
        rintro e w4 ⟨rfl, hb4⟩
        have HX4 := Lib.hid (HX3.out.keep hb4)
        clear d0 d1 d2 d3 d4 d5 d6 c0 c1 c2 c3 c4 c5 c6 hb4 HE
        obtain ⟨⟨d0, d1, d2, d3, d4, d5, d6⟩, ⟨c0, c1, c2, c3, c4, c5, c6⟩, _, _⟩ := HX4.out
        have HE2 : Hid (Calls Try.prog 8 #[.agg #[.int .i64 H.t, .int .i64 H.r, .int .i64 H.n, .slice H.dA H.deps.length H.dc, .int .i64 H.ut, .int .i64 H.ur, .slice H.oA H.xs.length H.oc]] w4 fun e w' => ∃ (x : ByteArray) (n : Int), e = .returned (.tuple #[.string x, .int .i64 n]) ∧ Below w4.heap.size w4 w') := by
          cases hcH : check H.g with
          | false => exact (enc_no H w4 (HH0.out.keep HX4.out.b) (few_fit HfH.out) hcH).mono fun e w' h => ⟨_, _, h⟩
          | true => exact (enc_ok H w4 (HH0.out.keep HX4.out.b) (few_fit HfH.out) hcH rfl).mono fun e w' h => ⟨_, _, h⟩
        go_wp2_with fail
        refine HE2.out.mono ?_
        rintro e w5 ⟨xx, nn, rfl, hb5⟩
        have HZ := Lib.hid (HX4.out.keep hb5).b
        clear d0 d1 d2 d3 d4 d5 d6 c0 c1 c2 c3 c4 c5 c6 hb5 HE2
        go_wp2
        go_ret
        exact ⟨rfl, HZ.out⟩
      | true =>
        have hdp := fit_deps (HG0.out)
        have hlen := spell_len HfG.out hcG hdp
        obtain ⟨t, ht⟩ : ∃ t, spell G.g = t := ⟨_, rfl⟩
        have hpos : 0 < t.length := by
          cases hq : t with
          | nil =>
            have h1 := decode_spell hcG hdp
            rw [ht, hq] at h1
            have h2 : M8.decode [] = none := by decide +kernel
            rw [h2] at h1; cases h1
          | cons a l => simp
        have hp : 0 < (bs t).size := by rw [bs_size]; exact hpos
        have hq : (bs t).size ≤ 140737488355328 := by rw [bs_size, ← ht]; omega
        have fne : ((bs t).toList == []) = false := by rw [empty_list]; exact decide_eq_false (fun h => by rw [h] at hpos; simp at hpos)
        obtain ⟨m1, m2⟩ := mod_in (c := c) hp
        have HCUT : Hid (∀ a, Calls Try.prog 9 #[.string ((bs t).extract 0 (c % (bs t).size))] a fun e w' => e = .returned (.tuple #[.agg zeroG.cells.toArray, .int .i64 80]) ∧ Below a.heap.size a w') := fun a => by
          rw [ext_pre]
          refine dec_no ?_ ?_ a
          · rw [List.length_take, ← ht]; omega
          · rw [← ht, bs_size]
            exact decode_cut hcG hdp (Nat.mod_lt _ (by rw [ht]; exact hpos))
        have HE : Hid (Calls Try.prog 8 #[.agg #[.int .i64 G.t, .int .i64 G.r, .int .i64 G.n, .slice G.dA G.deps.length G.dc, .int .i64 G.ut, .int .i64 G.ur, .slice G.oA G.xs.length G.oc]] w3 fun e w' => e = .returned (.tuple #[.string (bs t), .int .i64 0]) ∧ Below w3.heap.size w3 w') := enc_ok G w3 (HG0.out.keep HX3.out.b) (few_fit HfG.out) hcG ht
        have HcG := Lib.hid hcG
        have HT := Lib.hid ht
        clear hcG hdp hlen ht hpos
        go_wp2_with fail
        refine HE.out.mono ?_
        rintro e w4 ⟨rfl, hb4⟩
        have HX4 := Lib.hid (HX3.out.keep hb4)
        clear d0 d1 d2 d3 d4 d5 d6 c0 c1 c2 c3 c4 c5 c6 hb4 HE
        obtain ⟨⟨d0, d1, d2, d3, d4, d5, d6⟩, ⟨c0, c1, c2, c3, c4, c5, c6⟩, _, _⟩ := HX4.out
        cases hcH : check H.g with
        | false =>
          have HE2 : Hid (Calls Try.prog 8 #[.agg #[.int .i64 H.t, .int .i64 H.r, .int .i64 H.n, .slice H.dA H.deps.length H.dc, .int .i64 H.ut, .int .i64 H.ur, .slice H.oA H.xs.length H.oc]] w4 fun e w' => e = .returned (.tuple #[.string ⟨#[]⟩, .int .i64 80]) ∧ Below w4.heap.size w4 w') := enc_no H w4 (HH0.out.keep HX4.out.b) (few_fit HfH.out) hcH
          clear hcH
          go_wp2_with fail
          refine HE2.out.mono ?_
          rintro e w5 ⟨rfl, hb5⟩
          have HX5 := Lib.hid (HX4.out.keep hb5)
          clear hb5 HE2
          clear d0 d1 d2 d3 d4 d5 d6 c0 c1 c2 c3 c4 c5 c6
          go_wp2_with fail
          refine (HCUT.out _).mono ?_
          rintro e w9 ⟨rfl, hb9⟩
          have HZ := Lib.hid (chain HX5.out.b (chain hb9 (below_box (.cells zeroG.cells.toArray 27))))
          obtain ⟨W9, hW9⟩ : ∃ W9, w9.alloc (.cells zeroG.cells.toArray 27) = W9 := ⟨_, rfl⟩
          rw [hW9] at HZ
          have HW9 := Lib.hid hW9
          clear hb9 hW9
          go_wp2_with ((with_reducible refine wpList_store_fresh ?_ 27 (.tmp 12) (.tmp 71) ?_ _ zeroG.cells.toArray ?_ ?_ ?_ ?_ (gcells_one zeroG) ?_); exact rfl; exact rfl; exact rfl; exact rfl; exact (zero_of_info info_grp).2; exact rfl; rw [HW9.out])
          go_ret
          exact ⟨rfl, HZ.out⟩
        | true =>
          have hinj := spell_inj (check_dom HcG.out (fit_deps HG0.out)) (check_dom hcH (fit_deps HH0.out))
          rw [HT.out] at hinj
          obtain ⟨u, hu⟩ : ∃ u, spell H.g = u := ⟨_, rfl⟩
          have HE2 : Hid (Calls Try.prog 8 #[.agg #[.int .i64 H.t, .int .i64 H.r, .int .i64 H.n, .slice H.dA H.deps.length H.dc, .int .i64 H.ut, .int .i64 H.ur, .slice H.oA H.xs.length H.oc]] w4 fun e w' => e = .returned (.tuple #[.string (bs u), .int .i64 0]) ∧ Below w4.heap.size w4 w') := enc_ok H w4 (HH0.out.keep HX4.out.b) (few_fit HfH.out) hcH hu
          rw [hu] at hinj
          obtain ⟨y, hy⟩ : ∃ y, decide (t = u) = y := ⟨_, rfl⟩
          have feq : ((bs t).toList == (bs u).toList) = y := by rw [bs_toList, bs_toList, ← hy]; exact beq_dec t u
          have HY := Lib.hid hy
          have HINJ := Lib.hid hinj
          clear hcH hinj hu hy
          go_wp2_with fail
          refine HE2.out.mono ?_
          rintro e w5 ⟨rfl, hb5⟩
          have HX5 := Lib.hid (HX4.out.keep hb5)
          clear d0 d1 d2 d3 d4 d5 d6 c0 c1 c2 c3 c4 c5 c6 hb5 HE2
          obtain ⟨⟨d0, d1, d2, d3, d4, d5, d6⟩, ⟨c0, c1, c2, c3, c4, c5, c6⟩, _, _⟩ := HX5.out
          go_wp2_with fail
          refine (sameG_any G H _ (HG0.out.keep HX5.out.b) (HH0.out.keep HX5.out.b)).mono ?_
          rintro e w6 ⟨b, rfl, hbt, hb6⟩
          have HX6 := Lib.hid (HX5.out.keep hb6)
          obtain rfl : y = b := by
            have h2 : (decide (t = u) = true) ↔ t = u := decide_eq_true_iff
            rw [HY.out] at h2
            have h1 : (y = true ↔ b = true) := h2.trans (HINJ.out.trans hbt.symm)
            cases y <;> cases b <;> first | rfl | exact absurd (h1.1 rfl) (by simp) | exact absurd (h1.2 rfl) (by simp)
          clear d0 d1 d2 d3 d4 d5 d6 c0 c1 c2 c3 c4 c5 c6 hb6 hbt
          have fyy : (y != y) = false := by cases y <;> rfl
          obtain ⟨⟨d0, d1, d2, d3, d4, d5, d6⟩, ⟨c0, c1, c2, c3, c4, c5, c6⟩, _, _⟩ := HX6.out
          clear d0 d1 d2 d3 d4 d5 d6 c0 c1 c2 c3 c4 c5 c6
          go_wp2_with fail
          refine (HCUT.out _).mono ?_
          rintro e w9 ⟨rfl, hb9⟩
          have HZ := Lib.hid (chain HX6.out.b (chain hb9 (below_box (.cells zeroG.cells.toArray 27))))
          obtain ⟨W9, hW9⟩ : ∃ W9, w9.alloc (.cells zeroG.cells.toArray 27) = W9 := ⟨_, rfl⟩
          rw [hW9] at HZ
          have HW9 := Lib.hid hW9
          clear hb9 hW9
          go_wp2_with ((with_reducible refine wpList_store_fresh ?_ 27 (.tmp 12) (.tmp 71) ?_ _ zeroG.cells.toArray ?_ ?_ ?_ ?_ (gcells_one zeroG) ?_); exact rfl; exact rfl; exact rfl; exact rfl; exact (zero_of_info info_grp).2; exact rfl; rw [HW9.out])
          go_ret
          exact ⟨rfl, HZ.out⟩
theorem lawApartB (w : World) (G : GrpR) (hG : GrpAt w G) (H : GrpR) (hH : GrpAt w H) (cut : Int) (h1 : -9223372036854775808 ≤ cut) (h2 : cut ≤ 9223372036854775807) : Calls Try.prog 4 #[G.val, H.val, .int .i64 cut] w fun e w' => e = .returned (.bool true) ∧ Below w.heap.size w w' := lawApart w G hG H hH cut h1 h2

end Go.Proofs.Ytphnimmhjnhajaa.W8

