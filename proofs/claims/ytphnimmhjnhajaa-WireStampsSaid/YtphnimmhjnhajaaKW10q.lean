/-
  Layer 8, walks: awake.
-/
import Derived.Test.YtphnimmhjnhajaaKW10p
namespace Go.Proofs.Ytphnimmhjnhajaa.W8
open Go.RowKit Go.PlainAid M8 V1
set_option linter.unusedVariables false

theorem enc_ok (G : GrpR) (w : World) (hG : GrpAt w G) (hf : Fit G) (hc : check G.g = true) {t : List UInt8} (ht : spell G.g = t) : Calls Try.prog 8 #[.agg G.cells.toArray] w fun e w' => e = .returned (.tuple #[.string (bs t), .int .i64 0]) ∧ Below w.heap.size w w' := by
  have h := enc_any G w hG hf
  unfold encV at h
  rw [if_pos hc, ht] at h
  exact h
theorem enc_no (G : GrpR) (w : World) (hG : GrpAt w G) (hf : Fit G) (hc : check G.g = false) : Calls Try.prog 8 #[.agg G.cells.toArray] w fun e w' => e = .returned (.tuple #[.string ⟨#[]⟩, .int .i64 80]) ∧ Below w.heap.size w w' := by
  have h := enc_any G w hG hf
  unfold encV at h
  rw [if_neg (by rw [hc]; simp)] at h
  exact h
def DecOk (g : Grp) (w : World) (e : Ending) (w' : World) : Prop := ∃ G : GrpR, e = .returned (.tuple #[.agg G.cells.toArray, .int .i64 0]) ∧ GrpAt w' G ∧ Fit G ∧ G.g = g ∧ Below w.heap.size w w'
theorem dec_ok {s : List UInt8} (hz : s.length ≤ 1000000) {g : Grp} (hd : M8.decode s = some g) (w : World) : Calls Try.prog 9 #[.string (bs s)] w (DecOk g w) := by
  refine (dec_any s hz w).mono ?_
  rintro e w' ⟨G, er, rfl, h1, h2, h3, ⟨rfl, h4⟩ | ⟨rfl, h4, rfl⟩⟩
  · rw [hd] at h4
    injection h4 with h4
    exact ⟨G, rfl, h1, h2, h4.symm, h3⟩
  · rw [hd] at h4; cases h4
theorem dec_no {s : List UInt8} (hz : s.length ≤ 1000000) (hd : M8.decode s = none) (w : World) : Calls Try.prog 9 #[.string (bs s)] w fun e w' => e = .returned (.tuple #[.agg zeroG.cells.toArray, .int .i64 80]) ∧ Below w.heap.size w w' := by
  refine (dec_any s hz w).mono ?_
  rintro e w' ⟨G, er, rfl, h1, h2, h3, ⟨rfl, h4⟩ | ⟨rfl, h4, rfl⟩⟩
  · rw [hd] at h4; cases h4
  · exact ⟨rfl, h3⟩
theorem first_len : (firstB ++ [120]).length ≤ 1000000 := by decide

set_option maxRecDepth 100000 in
set_option maxHeartbeats 16000000 in
theorem awake_any (w : World) : Calls Try.prog 6 #[] w fun e w' => e = .returned (.bool true) ∧ Below w.heap.size w w' := by
  go_enter Try.func6, Try.ntmps6
  go_wp2_with fail
  refine (first_any _).mono ?_
  rintro e w1 ⟨F, rfl, hF, hFg, hFf, hb1⟩
  have HB1 := Lib.hid hb1
  have HE : Hid (Calls Try.prog 8 #[.agg F.cells.toArray] w1 fun e w' => e = .returned (.tuple #[.string (⟨#[1, 1, 1, 0, 0, 0, 1, 0, 1, 1, 0, 0, 0, 0, 1, 97, 1]⟩ : ByteArray), .int .i64 0]) ∧ Below w1.heap.size w1 w') := enc_ok F w1 hF hFf (by rw [hFg]; exact first_check) (t := firstB) (by rw [hFg]; exact first_spell)
  clear hF hFg hFf hb1
  go_wp2_with fail
  refine HE.out.mono ?_
  rintro e w2 ⟨rfl, hb2⟩
  have HB2 := Lib.hid (chain HB1.out hb2)
  clear hb2 HE
  go_wp2_with fail
  refine (dec_ok (s := firstB) (by decide) first_decode _).mono ?_
  rintro e w3 ⟨G, rfl, hG, hGf, hGg, hb3⟩
  have HB3 := Lib.hid (chain (chain HB2.out hb3) (below_box (.cells G.cells.toArray 27)))
  have hG3 := hG.keep (below_box (.cells G.cells.toArray 27))
  have hN3 := grp_box (G := G) (heap_alloc_new w3 (.cells G.cells.toArray 27))
  have hS3 : w3.heap.size < (w3.alloc (.cells G.cells.toArray 27)).heap.size := by simp
  obtain ⟨W3, hW3⟩ : ∃ W3, w3.alloc (.cells G.cells.toArray 27) = W3 := ⟨_, rfl⟩
  rw [hW3] at HB3 hG3 hN3 hS3
  have HW3 := Lib.hid hW3
  have HG3 := Lib.hid hG3
  have HN3 := Lib.hid hN3
  have HS3 := Lib.hid hS3
  have HGG := Lib.hid hGg
  have hj : (⟨#[1, 1, 1, 0, 0, 0, 1, 0, 1, 1, 0, 0, 0, 0, 1, 97, 1]⟩ : ByteArray) ++ (⟨#[120]⟩ : ByteArray) = bs (firstB ++ [120]) := bs_join firstB [120]
  clear hb3 hG hGf hGg hG3 hN3 hS3 hW3
  go_wp2_with (first | ((with_reducible refine wpList_store_fresh ?_ 27 (.tmp 3) (.tmp 15) ?_ _ G.cells.toArray ?_ ?_ ?_ ?_ (gcells_one G) ?_); exact rfl; exact rfl; exact rfl; exact rfl; exact (zero_of_info info_grp).2; exact rfl; rw [HW3.out]))
  refine (dec_no first_len first_more _).mono ?_
  rintro e w4 ⟨rfl, hb4⟩
  have hb5 := chain hb4 (below_box (.cells zeroG.cells.toArray 27))
  have hlt5 := Nat.lt_of_lt_of_le HS3.out hb5.size
  have hN5 := HN3.out.keep hb5 HS3.out
  have HG5 := Lib.hid (HG3.out.keep hb5)
  have HB5 := Lib.hid (chain HB3.out hb5)
  have HLT5 := Lib.hid hlt5
  obtain ⟨W4, hW4⟩ : ∃ W4, w4.alloc (.cells zeroG.cells.toArray 27) = W4 := ⟨_, rfl⟩
  rw [hW4] at hN5 HG5 HB5 HLT5
  have HN5 := Lib.hid hN5
  have HW4 := Lib.hid hW4
  clear hb4 hb5 hlt5 hN5 hW4 hj
  go_wp2_with (first | ((with_reducible refine wpList_store_fresh ?_ 27 (.tmp 5) (.tmp 21) ?_ _ zeroG.cells.toArray ?_ ?_ ?_ ?_ (gcells_one zeroG) ?_); exact rfl; exact rfl; exact rfl; exact rfl; exact (zero_of_info info_grp).2; exact rfl; rw [HW4.out]))
  obtain ⟨d0, d1, d2, d3, d4, d5, d6⟩ := HN5.out.keep (bdrew W4) HLT5.out
  have hS := (⟨d0, d1, d2, d3, d4, d5, d6, bdrew W4⟩ : (fun w' => w'.cell? ⟨w3.heap.size, 0, none⟩ = some (.int .i64 G.t) ∧ w'.cell? ⟨w3.heap.size, 1, none⟩ = some (.int .i64 G.r) ∧ w'.cell? ⟨w3.heap.size, 2, none⟩ = some (.int .i64 G.n) ∧ w'.cell? ⟨w3.heap.size, 3, none⟩ = some (.slice G.dA G.deps.length G.dc) ∧ w'.cell? ⟨w3.heap.size, 4, none⟩ = some (.int .i64 G.ut) ∧ w'.cell? ⟨w3.heap.size, 5, none⟩ = some (.int .i64 G.ur) ∧ w'.cell? ⟨w3.heap.size, 6, none⟩ = some (.slice G.oA G.xs.length G.oc) ∧ Below W4.heap.size W4 w') W4.drew)
  clear d0 d1 d2 d3 d4 d5 d6
  refine wp_region_noPanic ?_
  refine wp_region_held_drew (S := (fun w' => w'.cell? ⟨w3.heap.size, 0, none⟩ = some (.int .i64 G.t) ∧ w'.cell? ⟨w3.heap.size, 1, none⟩ = some (.int .i64 G.r) ∧ w'.cell? ⟨w3.heap.size, 2, none⟩ = some (.int .i64 G.n) ∧ w'.cell? ⟨w3.heap.size, 3, none⟩ = some (.slice G.dA G.deps.length G.dc) ∧ w'.cell? ⟨w3.heap.size, 4, none⟩ = some (.int .i64 G.ut) ∧ w'.cell? ⟨w3.heap.size, 5, none⟩ = some (.int .i64 G.ur) ∧ w'.cell? ⟨w3.heap.size, 6, none⟩ = some (.slice G.oA G.xs.length G.oc) ∧ Below W4.heap.size W4 w')) (by kernel_rfl) hS (fun hHeld => ?_)
  refine wpAnyH_take (i := 0) (oi := { dst := some 23, op := Op.move (Operand.tmp 2), type := 30, pos := "law.go:21", after := #[], guard := none }) (v := ?v1) rfl (by kernel_rfl) (by kernel_rfl) (by kernel_rfl) (fun _ _ _ h => h) (Or.inl ⟨by rfl, ?y1⟩) hHeld ?r1
  case y1 =>
    intro wv hSw
    (try dsimp only at hSw)
    go_simp
    all_goals (with_reducible rfl)
  simp only [Act.put, List.setIfInBounds_toArray, List.set_cons_zero, List.set_cons_succ]
  refine wpAnyH_take (i := 1) (oi := { dst := some 24, op := Op.binOp BinOp.eql 30 (Operand.tmp 23) (Operand.const (Value.int IntKind.i64 0)) 30, type := 4, pos := "law.go:21", after := #[{ on := 0, ground := Ground.data }], guard := none }) (v := ?v2) rfl (by kernel_rfl) (by kernel_rfl) (by kernel_rfl) (fun _ _ _ h => h) (Or.inl ⟨by rfl, ?y2⟩) hHeld ?r2
  case y2 =>
    intro wv hSw
    (try dsimp only at hSw)
    go_simp
    all_goals (with_reducible rfl)
  simp only [Act.put, List.setIfInBounds_toArray, List.set_cons_zero, List.set_cons_succ]
  refine wpAnyH_take (i := 2) (oi := { dst := some 25, op := Op.move (Operand.tmp 24), type := 4, pos := "law.go:21", after := #[{ on := 1, ground := Ground.data }], guard := none }) (v := ?v3) rfl (by kernel_rfl) (by kernel_rfl) (by kernel_rfl) (fun _ _ _ h => h) (Or.inl ⟨by rfl, ?y3⟩) hHeld ?r3
  case y3 =>
    intro wv hSw
    (try dsimp only at hSw)
    go_simp
    all_goals (with_reducible rfl)
  simp only [Act.put, List.setIfInBounds_toArray, List.set_cons_zero, List.set_cons_succ]
  refine wpAnyH_take (i := 3) (oi := { dst := some 26, op := Op.move (Operand.tmp 1), type := 9, pos := "law.go:21", after := #[{ on := 2, ground := Ground.guard }], guard := some (2, true) }) (v := ?v4) rfl (by kernel_rfl) (by kernel_rfl) (by kernel_rfl) (fun _ _ _ h => h) (Or.inl ⟨by rfl, ?y4⟩) hHeld ?r4
  case y4 =>
    intro wv hSw
    (try dsimp only at hSw)
    go_simp
    all_goals (with_reducible rfl)
  simp only [Act.put, List.setIfInBounds_toArray, List.set_cons_zero, List.set_cons_succ]
  refine wpAnyH_take (i := 4) (oi := { dst := some 27, op := Op.binOp BinOp.eql 9 (Operand.tmp 26) (Operand.const (Value.string { data := #[1, 1, 1, 0, 0, 0, 1, 0, 1, 1, 0, 0, 0, 0, 1, 97, 1] })) 9, type := 4, pos := "law.go:21", after := #[{ on := 3, ground := Ground.data }, { on := 2, ground := Ground.guard }], guard := some (2, true) }) (v := ?v5) rfl (by kernel_rfl) (by kernel_rfl) (by kernel_rfl) (fun _ _ _ h => h) (Or.inl ⟨by rfl, ?y5⟩) hHeld ?r5
  case y5 =>
    intro wv hSw
    (try dsimp only at hSw)
    go_simp
    all_goals (with_reducible rfl)
  simp only [Act.put, List.setIfInBounds_toArray, List.set_cons_zero, List.set_cons_succ]
  refine wpAnyH_take (i := 5) (oi := { dst := some 28, op := Op.pick (Operand.tmp 25) (Operand.tmp 27) (Operand.const (Value.bool false)), type := 4, pos := "law.go:21", after := #[{ on := 2, ground := Ground.data }, { on := 4, ground := Ground.data }], guard := none }) (v := ?v6) rfl (by kernel_rfl) (by kernel_rfl) (by kernel_rfl) (fun _ _ _ h => h) (Or.inl ⟨by rfl, ?y6⟩) hHeld ?r6
  case y6 =>
    intro wv hSw
    (try dsimp only at hSw)
    go_simp
    all_goals (with_reducible rfl)
  simp only [Act.put, List.setIfInBounds_toArray, List.set_cons_zero, List.set_cons_succ]
  refine wpAnyH_take (i := 6) (oi := { dst := some 29, op := Op.move (Operand.tmp 28), type := 4, pos := "law.go:21", after := #[{ on := 5, ground := Ground.data }, { on := 2, ground := Ground.chain }], guard := none }) (v := ?v7) rfl (by kernel_rfl) (by kernel_rfl) (by kernel_rfl) (fun _ _ _ h => h) (Or.inl ⟨by rfl, ?y7⟩) hHeld ?r7
  case y7 =>
    intro wv hSw
    (try dsimp only at hSw)
    go_simp
    all_goals (with_reducible rfl)
  simp only [Act.put, List.setIfInBounds_toArray, List.set_cons_zero, List.set_cons_succ]
  refine wpAnyH_take (i := 7) (oi := { dst := some 30, op := Op.move (Operand.tmp 4), type := 30, pos := "law.go:21", after := #[{ on := 6, ground := Ground.guard }], guard := some (6, true) }) (v := ?v8) rfl (by kernel_rfl) (by kernel_rfl) (by kernel_rfl) (fun _ _ _ h => h) (Or.inl ⟨by rfl, ?y8⟩) hHeld ?r8
  case y8 =>
    intro wv hSw
    (try dsimp only at hSw)
    go_simp
    all_goals (with_reducible rfl)
  simp only [Act.put, List.setIfInBounds_toArray, List.set_cons_zero, List.set_cons_succ]
  refine wpAnyH_take (i := 8) (oi := { dst := some 31, op := Op.binOp BinOp.eql 30 (Operand.tmp 30) (Operand.const (Value.int IntKind.i64 0)) 30, type := 4, pos := "law.go:21", after := #[{ on := 7, ground := Ground.data }, { on := 6, ground := Ground.guard }], guard := some (6, true) }) (v := ?v9) rfl (by kernel_rfl) (by kernel_rfl) (by kernel_rfl) (fun _ _ _ h => h) (Or.inl ⟨by rfl, ?y9⟩) hHeld ?r9
  case y9 =>
    intro wv hSw
    (try dsimp only at hSw)
    go_simp
    all_goals (with_reducible rfl)
  simp only [Act.put, List.setIfInBounds_toArray, List.set_cons_zero, List.set_cons_succ]
  refine wpAnyH_take (i := 9) (oi := { dst := some 32, op := Op.pick (Operand.tmp 29) (Operand.tmp 31) (Operand.const (Value.bool false)), type := 4, pos := "law.go:21", after := #[{ on := 6, ground := Ground.data }, { on := 8, ground := Ground.data }], guard := none }) (v := ?v10) rfl (by kernel_rfl) (by kernel_rfl) (by kernel_rfl) (fun _ _ _ h => h) (Or.inl ⟨by rfl, ?y10⟩) hHeld ?r10
  case y10 =>
    intro wv hSw
    (try dsimp only at hSw)
    go_simp
    all_goals (with_reducible rfl)
  simp only [Act.put, List.setIfInBounds_toArray, List.set_cons_zero, List.set_cons_succ]
  refine wpAnyH_take (i := 10) (oi := { dst := some 33, op := Op.move (Operand.tmp 32), type := 4, pos := "law.go:21", after := #[{ on := 9, ground := Ground.data }, { on := 6, ground := Ground.chain }], guard := none }) (v := ?v11) rfl (by kernel_rfl) (by kernel_rfl) (by kernel_rfl) (fun _ _ _ h => h) (Or.inl ⟨by rfl, ?y11⟩) hHeld ?r11
  case y11 =>
    intro wv hSw
    (try dsimp only at hSw)
    go_simp
    all_goals (with_reducible rfl)
  simp only [Act.put, List.setIfInBounds_toArray, List.set_cons_zero, List.set_cons_succ]
  refine wpAnyH_take (i := 11) (oi := { dst := some 34, op := Op.load 27 (Operand.tmp 3), type := 27, pos := "law.go:21", after := #[{ on := 10, ground := Ground.guard }], guard := some (10, true) }) (v := ?v12) rfl (by kernel_rfl) (by kernel_rfl) (by kernel_rfl) (fun _ _ _ h => h) (Or.inl ⟨by rfl, ?y12⟩) hHeld ?r12
  case y12 =>
    intro wv hSw
    (try dsimp only at hSw)
    go_simp
    all_goals (with_reducible rfl)
  simp only [Act.put, List.setIfInBounds_toArray, List.set_cons_zero, List.set_cons_succ]
  refine wpAnyH_ready (rs := [12]) (by kernel_rfl) (by simp) ?_
  refine AllReadyH.cons (o := { dst := some 35, op := Op.call { callee := Callee.value (Operand.func 13), args := #[], argTypes := #[] }, type := 27, pos := "law.go:21", after := #[{ on := 10, ground := Ground.chain }, { on := 10, ground := Ground.guard }], guard := some (10, true) }) rfl (fun K hK => ?_) AllReadyH.nil
  go_simp
  refine (first_any _).mono ?_
  rintro e w6 ⟨F2, rfl, hF2, hFg2, hFf2, hb6⟩
  have hk : (fun w' => w'.cell? ⟨w3.heap.size, 0, none⟩ = some (.int .i64 G.t) ∧ w'.cell? ⟨w3.heap.size, 1, none⟩ = some (.int .i64 G.r) ∧ w'.cell? ⟨w3.heap.size, 2, none⟩ = some (.int .i64 G.n) ∧ w'.cell? ⟨w3.heap.size, 3, none⟩ = some (.slice G.dA G.deps.length G.dc) ∧ w'.cell? ⟨w3.heap.size, 4, none⟩ = some (.int .i64 G.ut) ∧ w'.cell? ⟨w3.heap.size, 5, none⟩ = some (.int .i64 G.ur) ∧ w'.cell? ⟨w3.heap.size, 6, none⟩ = some (.slice G.oA G.xs.length G.oc) ∧ Below W4.heap.size W4 w') w6 := by
      have hbk := chain hHeld.2.2.2.2.2.2.2 hb6
      obtain ⟨d0, d1, d2, d3, d4, d5, d6⟩ := HN5.out.keep hbk HLT5.out
      exact ⟨d0, d1, d2, d3, d4, d5, d6, hbk⟩
  have HF2 := Lib.hid hF2
  have HFG2 := Lib.hid hFg2
  clear hF2 hFg2 hFf2 hb6
  go_simp
  refine hK.out _ _ (by exact hk) (fun hHeld => ?_)
  clear hK K
  (try simp only [Act.put, List.setIfInBounds_toArray, List.set_cons_zero, List.set_cons_succ])
  refine wpAnyH_ready (rs := [13]) (by kernel_rfl) (by simp) ?_
  refine AllReadyH.cons (o := { dst := some 36, op := Op.call { callee := Callee.value (Operand.func 10), args := #[Operand.tmp 34, Operand.tmp 35], argTypes := #[27, 27] }, type := 4, pos := "law.go:21", after := #[{ on := 11, ground := Ground.data }, { on := 12, ground := Ground.data }, { on := 12, ground := Ground.chain }, { on := 10, ground := Ground.guard }], guard := some (10, true) }) rfl (fun K hK => ?_) AllReadyH.nil
  go_simp
  refine (sameG_any G F2 _ (HG5.out.keep hHeld.2.2.2.2.2.2.2) HF2.out).mono ?_
  rintro e w7 ⟨b, rfl, hbt, hb7⟩
  have hk : (fun w' => w'.cell? ⟨w3.heap.size, 0, none⟩ = some (.int .i64 G.t) ∧ w'.cell? ⟨w3.heap.size, 1, none⟩ = some (.int .i64 G.r) ∧ w'.cell? ⟨w3.heap.size, 2, none⟩ = some (.int .i64 G.n) ∧ w'.cell? ⟨w3.heap.size, 3, none⟩ = some (.slice G.dA G.deps.length G.dc) ∧ w'.cell? ⟨w3.heap.size, 4, none⟩ = some (.int .i64 G.ut) ∧ w'.cell? ⟨w3.heap.size, 5, none⟩ = some (.int .i64 G.ur) ∧ w'.cell? ⟨w3.heap.size, 6, none⟩ = some (.slice G.oA G.xs.length G.oc) ∧ Below W4.heap.size W4 w') w7 := by
      have hbk := chain hHeld.2.2.2.2.2.2.2 hb7
      obtain ⟨d0, d1, d2, d3, d4, d5, d6⟩ := HN5.out.keep hbk HLT5.out
      exact ⟨d0, d1, d2, d3, d4, d5, d6, hbk⟩
  have hbT : b = true := hbt.2 (by rw [HGG.out, HFG2.out])
  subst hbT
  have HBZ := Lib.hid (chain HB5.out hk.2.2.2.2.2.2.2)
  clear hbt hb7
  go_simp
  refine hK.out _ _ (by exact hk) (fun hHeld => ?_)
  clear hK K
  (try simp only [Act.put, List.setIfInBounds_toArray, List.set_cons_zero, List.set_cons_succ])
  refine wpAnyH_take (i := 14) (oi := { dst := some 37, op := Op.pick (Operand.tmp 33) (Operand.tmp 36) (Operand.const (Value.bool false)), type := 4, pos := "law.go:21", after := #[{ on := 10, ground := Ground.data }, { on := 13, ground := Ground.data }], guard := none }) (v := ?v13) rfl (by kernel_rfl) (by kernel_rfl) (by kernel_rfl) (fun _ _ _ h => h) (Or.inl ⟨by rfl, ?y13⟩) hHeld ?r13
  case y13 =>
    intro wv hSw
    (try dsimp only at hSw)
    go_simp
    all_goals (with_reducible rfl)
  simp only [Act.put, List.setIfInBounds_toArray, List.set_cons_zero, List.set_cons_succ]
  refine wpAnyH_take (i := 15) (oi := { dst := some 38, op := Op.move (Operand.tmp 37), type := 4, pos := "law.go:21", after := #[{ on := 14, ground := Ground.data }, { on := 13, ground := Ground.chain }], guard := none }) (v := ?v14) rfl (by kernel_rfl) (by kernel_rfl) (by kernel_rfl) (fun _ _ _ h => h) (Or.inl ⟨by rfl, ?y14⟩) hHeld ?r14
  case y14 =>
    intro wv hSw
    (try dsimp only at hSw)
    go_simp
    all_goals (with_reducible rfl)
  simp only [Act.put, List.setIfInBounds_toArray, List.set_cons_zero, List.set_cons_succ]
  refine wpAnyH_take (i := 16) (oi := { dst := some 39, op := Op.move (Operand.tmp 6), type := 30, pos := "law.go:21", after := #[{ on := 15, ground := Ground.guard }], guard := some (15, true) }) (v := ?v15) rfl (by kernel_rfl) (by kernel_rfl) (by kernel_rfl) (fun _ _ _ h => h) (Or.inl ⟨by rfl, ?y15⟩) hHeld ?r15
  case y15 =>
    intro wv hSw
    (try dsimp only at hSw)
    go_simp
    all_goals (with_reducible rfl)
  simp only [Act.put, List.setIfInBounds_toArray, List.set_cons_zero, List.set_cons_succ]
  refine wpAnyH_take (i := 17) (oi := { dst := some 40, op := Op.binOp BinOp.eql 30 (Operand.tmp 39) (Operand.const (Value.int IntKind.i64 80)) 30, type := 4, pos := "law.go:21", after := #[{ on := 16, ground := Ground.data }, { on := 15, ground := Ground.guard }], guard := some (15, true) }) (v := ?v16) rfl (by kernel_rfl) (by kernel_rfl) (by kernel_rfl) (fun _ _ _ h => h) (Or.inl ⟨by rfl, ?y16⟩) hHeld ?r16
  case y16 =>
    intro wv hSw
    (try dsimp only at hSw)
    go_simp
    all_goals (with_reducible rfl)
  simp only [Act.put, List.setIfInBounds_toArray, List.set_cons_zero, List.set_cons_succ]
  refine wpAnyH_take (i := 18) (oi := { dst := some 41, op := Op.pick (Operand.tmp 38) (Operand.tmp 40) (Operand.const (Value.bool false)), type := 4, pos := "law.go:21", after := #[{ on := 15, ground := Ground.data }, { on := 17, ground := Ground.data }], guard := none }) (v := ?v17) rfl (by kernel_rfl) (by kernel_rfl) (by kernel_rfl) (fun _ _ _ h => h) (Or.inl ⟨by rfl, ?y17⟩) hHeld ?r17
  case y17 =>
    intro wv hSw
    (try dsimp only at hSw)
    go_simp
    all_goals (with_reducible rfl)
  simp only [Act.put, List.setIfInBounds_toArray, List.set_cons_zero, List.set_cons_succ]
  refine wpAnyH_take (i := 19) (oi := { dst := some 0, op := Op.assign (Operand.tmp 41), type := 4, pos := "law.go:21", after := #[{ on := 18, ground := Ground.data }, { on := 15, ground := Ground.chain }, { on := 0, ground := Ground.phase }, { on := 1, ground := Ground.phase }, { on := 2, ground := Ground.phase }, { on := 3, ground := Ground.phase }, { on := 4, ground := Ground.phase }, { on := 5, ground := Ground.phase }, { on := 6, ground := Ground.phase }, { on := 7, ground := Ground.phase }, { on := 8, ground := Ground.phase }, { on := 9, ground := Ground.phase }, { on := 10, ground := Ground.phase }, { on := 11, ground := Ground.phase }, { on := 12, ground := Ground.phase }, { on := 13, ground := Ground.phase }, { on := 14, ground := Ground.phase }, { on := 15, ground := Ground.phase }, { on := 16, ground := Ground.phase }, { on := 17, ground := Ground.phase }, { on := 18, ground := Ground.phase }], guard := none }) (v := ?v18) rfl (by kernel_rfl) (by kernel_rfl) (by kernel_rfl) (fun _ _ _ h => h) (Or.inl ⟨by rfl, ?y18⟩) hHeld ?r18
  case y18 =>
    intro wv hSw
    (try dsimp only at hSw)
    go_simp
    all_goals (with_reducible rfl)
  simp only [Act.put, List.setIfInBounds_toArray, List.set_cons_zero]
  refine wpAnyH_done (by kernel_rfl) ?_ _
  refine NoPanic.normal ?_
  clear hHeld
  go_wp2
  go_ret
  exact ⟨rfl, HBZ.out⟩

end Go.Proofs.Ytphnimmhjnhajaa.W8

