/-
  Layer 10: an act on both shelves: Show, Put.
-/
import Derived.Test.YtnbgnjpjdplocaaR10h
namespace Go.Proofs.Ytnbgnjpjdplocaa.Q10
open Go.RowKit Go.PlainAid
set_option linter.unusedVariables false
set_option linter.unusedSimpArgs false

set_option maxRecDepth 100000 in
set_option maxHeartbeats 4000000 in
theorem same_show (s r : Nat) (w0 w : World) (l : List En) (h : JO s r w0 l l w) (a at_ x1 x2 x3 k : Int) (q : Bool) (hk : bits .and .i64 a 15 = k) (k8 : ¬ k < 8) (k11 : k < 11) (k14 : ¬ 14 ≤ k) (hx : okNm (x1, x2, x3)) (h1 : -9223372036854775808 ≤ at_) (h2 : at_ ≤ 9223372036854775807) (hfew : l.length + 1 ≤ 100000) :
    Calls Try.prog 8 #[.pointer (some ⟨s, 0, none⟩), .pointer (some ⟨r, 0, none⟩), actV a at_ x1 x2 x3 q] w fun e w' => e = .returned (.bool true) ∧ Same s r w0 l w' := by
  have hnd := Lib.hid h.nod
  have HX := Lib.hid hx
  obtain ⟨W, hW⟩ : ∃ W, W = w.alloc (.cells #[.int .i64 a, .int .i64 at_, .int .i64 x1, .int .i64 x2, .int .i64 x3, .bool q] 37) := ⟨_, rfl⟩
  have F0 : Hid (JK w.heap.size (actO a at_ x1 x2 x3 q) s r w0 l l W) := by rw [hW]; exact JK.of h _
  have HW : Hid (w.alloc (.cells #[.int .i64 a, .int .i64 at_, .int .i64 x1, .int .i64 x2, .int .i64 x3, .bool q] 37) = W) := hW.symm
  obtain ⟨o, ho⟩ : ∃ o, o = actO a at_ x1 x2 x3 q := ⟨_, rfl⟩
  rw [← ho] at F0
  have HO := Lib.hid ho
  have FD : Hid (JK w.heap.size o s r w0 l l W.drew) := F0.out.keep (Below.refl _ _).drew
  have ACT : Hid (∀ l1 m1 W1, Hid (JK w.heap.size o s r w0 l1 m1 W1) → (fun W2 => W2.cell? ⟨w.heap.size, 1, none⟩ = some (.int .i64 at_) ∧ W2.cell? ⟨w.heap.size, 2, none⟩ = some (.int .i64 x1) ∧ W2.cell? ⟨w.heap.size, 3, none⟩ = some (.int .i64 x2) ∧ W2.cell? ⟨w.heap.size, 4, none⟩ = some (.int .i64 x3) ∧ W2.cell? ⟨w.heap.size, 5, none⟩ = some (.bool q)) W1) := by
    intro l1 m1 W1 hW1
    have := hW1.out
    rw [HO.out] at this
    exact this.act
  clear hW ho hx h
  unfold actV
  go_enter Try.func8, Try.ntmps8
  go_upto_region 7 with fail
  rw [HW.out]
  obtain ⟨se, hse⟩ : ∃ se, se = showE l (x1, x2, x3) := ⟨_, rfl⟩
  obtain ⟨l', hl'⟩ : ∃ l', l' = showL l (x1, x2, x3) q := ⟨_, rfl⟩
  have HSE := Lib.hid hse
  have HL' := Lib.hid hl'
  clear hse hl'
  have C1 : Hid (∀ W1, Hid (JK w.heap.size o s r w0 l l W1) → Calls Try.prog 19 #[.pointer (some ⟨s, 0, none⟩), .agg #[.int .i64 x1, .int .i64 x2, .int .i64 x3], .bool q] W1 fun e w' => e = .returned (.int .i64 se) ∧ Hid (JK w.heap.size o s r w0 l' l w')) := by
    intro W1 hW1
    refine (hW1.out.show (x := (x1, x2, x3)) (q := q) HX.out).mono ?_
    rintro e w' ⟨he, h2⟩
    rw [← HL'.out] at h2
    exact ⟨by rw [he, HSE.out], h2⟩
  have C2 : Hid (∀ W1, Hid (JK w.heap.size o s r w0 l' l W1) → Calls Try.prog 20 #[.pointer (some ⟨r, 0, none⟩), .agg #[.int .i64 x1, .int .i64 x2, .int .i64 x3], .bool q] W1 fun e w' => e = .returned (.int .i64 se) ∧ Hid (JK w.heap.size o s r w0 l' l' w')) := by
    intro W1 hW1
    refine (hW1.out.refShow hnd.out (x := (x1, x2, x3)) (q := q)).mono ?_
    rintro e w' ⟨he, h2⟩
    rw [← HL'.out] at h2
    exact ⟨by rw [he, HSE.out], h2⟩
  refine wp_region_noPanic ?_
  refine wp_region_held_drew (S := fun W2 => W2.cell? ⟨w.heap.size, 1, none⟩ = some (.int .i64 at_) ∧ W2.cell? ⟨w.heap.size, 2, none⟩ = some (.int .i64 x1) ∧ W2.cell? ⟨w.heap.size, 3, none⟩ = some (.int .i64 x2) ∧ W2.cell? ⟨w.heap.size, 4, none⟩ = some (.int .i64 x3) ∧ W2.cell? ⟨w.heap.size, 5, none⟩ = some (.bool q)) (by kernel_rfl) (ACT.out _ _ _ FD) (fun hHeld => ?_)
  refine wpAnyH_take (i := 0) (oi := { dst := some 70, op := Op.move (Operand.tmp 0), type := 24, pos := "law.go:60", after := #[], guard := none }) (v := ?v1) rfl (by kernel_rfl) (by kernel_rfl) (by kernel_rfl) (fun _ _ _ h => h) (Or.inl ⟨by rfl, ?y1⟩) hHeld ?r1
  case y1 =>
    intro wv hSw
    (try dsimp only at hSw)
    go_simp
    all_goals (with_reducible rfl)
  simp only [Act.put, List.setIfInBounds_toArray, List.set_cons_zero, List.set_cons_succ]
  refine wpAnyH_take (i := 1) (oi := { dst := some 71, op := Op.fieldAddr 37 (Operand.tmp 5) 2, type := 0, pos := "law.go:60", after := #[], guard := none }) (v := ?v2) rfl (by kernel_rfl) (by kernel_rfl) (by kernel_rfl) (fun _ _ _ h => h) (Or.inl ⟨by rfl, ?y2⟩) hHeld ?r2
  case y2 =>
    intro wv hSw
    (try dsimp only at hSw)
    go_simp
    all_goals (with_reducible rfl)
  simp only [Act.put, List.setIfInBounds_toArray, List.set_cons_zero, List.set_cons_succ]
  refine wpAnyH_take (i := 2) (oi := { dst := some 72, op := Op.load 35 (Operand.tmp 71), type := 35, pos := "law.go:60", after := #[{ on := 1, ground := Ground.data }], guard := none }) (v := ?v3) rfl (by kernel_rfl) (by kernel_rfl) (by kernel_rfl) (fun _ _ _ h => h) (Or.inl ⟨by rfl, ?y3⟩) hHeld ?r3
  case y3 =>
    intro wv hSw
    (try dsimp only at hSw)
    go_simp
    all_goals (with_reducible rfl)
  simp only [Act.put, List.setIfInBounds_toArray, List.set_cons_zero, List.set_cons_succ]
  refine wpAnyH_take (i := 3) (oi := { dst := some 73, op := Op.fieldAddr 37 (Operand.tmp 5) 3, type := 0, pos := "law.go:60", after := #[], guard := none }) (v := ?v4) rfl (by kernel_rfl) (by kernel_rfl) (by kernel_rfl) (fun _ _ _ h => h) (Or.inl ⟨by rfl, ?y4⟩) hHeld ?r4
  case y4 =>
    intro wv hSw
    (try dsimp only at hSw)
    go_simp
    all_goals (with_reducible rfl)
  simp only [Act.put, List.setIfInBounds_toArray, List.set_cons_zero, List.set_cons_succ]
  refine wpAnyH_take (i := 4) (oi := { dst := some 74, op := Op.load 4 (Operand.tmp 73), type := 4, pos := "law.go:60", after := #[{ on := 3, ground := Ground.data }], guard := none }) (v := ?v5) rfl (by kernel_rfl) (by kernel_rfl) (by kernel_rfl) (fun _ _ _ h => h) (Or.inl ⟨by rfl, ?y5⟩) hHeld ?r5
  case y5 =>
    intro wv hSw
    (try dsimp only at hSw)
    go_simp
    all_goals (with_reducible rfl)
  simp only [Act.put, List.setIfInBounds_toArray, List.set_cons_zero, List.set_cons_succ]
  refine wpAnyH_take (i := 6) (oi := { dst := some 76, op := Op.move (Operand.tmp 1), type := 26, pos := "law.go:60", after := #[], guard := none }) (v := ?v6) rfl (by kernel_rfl) (by kernel_rfl) (by kernel_rfl) (fun _ _ _ h => h) (Or.inl ⟨by rfl, ?y6⟩) hHeld ?r6
  case y6 =>
    intro wv hSw
    (try dsimp only at hSw)
    go_simp
    all_goals (with_reducible rfl)
  simp only [Act.put, List.setIfInBounds_toArray, List.set_cons_zero, List.set_cons_succ]
  refine wpAnyH_take (i := 7) (oi := { dst := some 77, op := Op.fieldAddr 37 (Operand.tmp 5) 2, type := 0, pos := "law.go:60", after := #[], guard := none }) (v := ?v7) rfl (by kernel_rfl) (by kernel_rfl) (by kernel_rfl) (fun _ _ _ h => h) (Or.inl ⟨by rfl, ?y7⟩) hHeld ?r7
  case y7 =>
    intro wv hSw
    (try dsimp only at hSw)
    go_simp
    all_goals (with_reducible rfl)
  simp only [Act.put, List.setIfInBounds_toArray, List.set_cons_zero, List.set_cons_succ]
  refine wpAnyH_take (i := 8) (oi := { dst := some 78, op := Op.load 35 (Operand.tmp 77), type := 35, pos := "law.go:60", after := #[{ on := 7, ground := Ground.data }], guard := none }) (v := ?v8) rfl (by kernel_rfl) (by kernel_rfl) (by kernel_rfl) (fun _ _ _ h => h) (Or.inl ⟨by rfl, ?y8⟩) hHeld ?r8
  case y8 =>
    intro wv hSw
    (try dsimp only at hSw)
    go_simp
    all_goals (with_reducible rfl)
  simp only [Act.put, List.setIfInBounds_toArray, List.set_cons_zero, List.set_cons_succ]
  refine wpAnyH_take (i := 9) (oi := { dst := some 79, op := Op.fieldAddr 37 (Operand.tmp 5) 3, type := 0, pos := "law.go:60", after := #[], guard := none }) (v := ?v9) rfl (by kernel_rfl) (by kernel_rfl) (by kernel_rfl) (fun _ _ _ h => h) (Or.inl ⟨by rfl, ?y9⟩) hHeld ?r9
  case y9 =>
    intro wv hSw
    (try dsimp only at hSw)
    go_simp
    all_goals (with_reducible rfl)
  simp only [Act.put, List.setIfInBounds_toArray, List.set_cons_zero, List.set_cons_succ]
  refine wpAnyH_take (i := 10) (oi := { dst := some 80, op := Op.load 4 (Operand.tmp 79), type := 4, pos := "law.go:60", after := #[{ on := 9, ground := Ground.data }], guard := none }) (v := ?v10) rfl (by kernel_rfl) (by kernel_rfl) (by kernel_rfl) (fun _ _ _ h => h) (Or.inl ⟨by rfl, ?y10⟩) hHeld ?r10
  case y10 =>
    intro wv hSw
    (try dsimp only at hSw)
    go_simp
    all_goals (with_reducible rfl)
  simp only [Act.put, List.setIfInBounds_toArray, List.set_cons_zero, List.set_cons_succ]
  refine wpAnyH_ready (rs := [5]) (by kernel_rfl) (by simp) ?_
  refine AllReadyH.cons (o := { dst := some 75, op := Op.call { callee := Callee.value (Operand.func 19), args := #[Operand.tmp 70, Operand.tmp 72, Operand.tmp 74], argTypes := #[24, 35, 4] }, type := 43, pos := "law.go:60", after := #[{ on := 0, ground := Ground.data }, { on := 2, ground := Ground.data }, { on := 4, ground := Ground.data }], guard := none }) rfl (fun K hK => ?_) AllReadyH.nil
  go_simp
  refine (C1.out _ FD).mono ?_
  rintro e w4 ⟨rfl, HJ4⟩
  go_simp
  refine hK.out _ _ (by exact ACT.out _ _ _ HJ4) (fun hHeld => ?_)
  clear hK K
  (try simp only [Act.put, List.setIfInBounds_toArray, List.set_cons_zero, List.set_cons_succ])
  refine wpAnyH_ready (rs := [11]) (by kernel_rfl) (by simp) ?_
  refine AllReadyH.cons (o := { dst := some 81, op := Op.call { callee := Callee.value (Operand.func 20), args := #[Operand.tmp 76, Operand.tmp 78, Operand.tmp 80], argTypes := #[26, 35, 4] }, type := 43, pos := "law.go:60", after := #[{ on := 6, ground := Ground.data }, { on := 8, ground := Ground.data }, { on := 10, ground := Ground.data }, { on := 5, ground := Ground.chain }], guard := none }) rfl (fun K hK => ?_) AllReadyH.nil
  go_simp
  refine (C2.out _ HJ4).mono ?_
  rintro e w5 ⟨rfl, HJ5⟩
  go_simp
  refine hK.out _ _ (by exact ACT.out _ _ _ HJ5) (fun hHeld => ?_)
  clear hK K
  (try simp only [Act.put, List.setIfInBounds_toArray, List.set_cons_zero, List.set_cons_succ])
  refine wpAnyH_take (i := 12) (oi := { dst := some 82, op := Op.binOp BinOp.eql 43 (Operand.tmp 75) (Operand.tmp 81) 43, type := 4, pos := "law.go:60", after := #[{ on := 5, ground := Ground.data }, { on := 11, ground := Ground.data }], guard := none }) (v := ?v11) rfl (by kernel_rfl) (by kernel_rfl) (by kernel_rfl) (fun _ _ _ h => h) (Or.inl ⟨by rfl, ?y11⟩) hHeld ?r11
  case y11 =>
    intro wv hSw
    (try dsimp only at hSw)
    go_simp
    all_goals (with_reducible rfl)
  simp only [Act.put, List.setIfInBounds_toArray, List.set_cons_zero, List.set_cons_succ]
  refine wpAnyH_take (i := 13) (oi := { dst := some 6, op := Op.assign (Operand.tmp 82), type := 4, pos := "law.go:60", after := #[{ on := 12, ground := Ground.data }, { on := 11, ground := Ground.chain }, { on := 0, ground := Ground.phase }, { on := 1, ground := Ground.phase }, { on := 2, ground := Ground.phase }, { on := 3, ground := Ground.phase }, { on := 4, ground := Ground.phase }, { on := 5, ground := Ground.phase }, { on := 6, ground := Ground.phase }, { on := 7, ground := Ground.phase }, { on := 8, ground := Ground.phase }, { on := 9, ground := Ground.phase }, { on := 10, ground := Ground.phase }, { on := 11, ground := Ground.phase }, { on := 12, ground := Ground.phase }], guard := none }) (v := ?v12) rfl (by kernel_rfl) (by kernel_rfl) (by kernel_rfl) (fun _ _ _ h => h) (Or.inl ⟨by rfl, ?y12⟩) hHeld ?r12
  case y12 =>
    intro wv hSw
    (try dsimp only at hSw)
    go_simp
    all_goals (with_reducible rfl)
  simp only [Act.put, List.setIfInBounds_toArray, List.set_cons_zero, List.set_cons_succ]
  refine wpAnyH_done (by kernel_rfl) ?_ _
  refine NoPanic.normal ?_
  clear hHeld
  go_wp2
  go_ret
  exact ⟨by trivial, l', by rw [HL'.out]; exact showL_le _ _ _, HJ5.out.jo⟩

set_option maxRecDepth 100000 in
set_option maxHeartbeats 4000000 in
theorem same_put (s r : Nat) (w0 w : World) (l : List En) (h : JO s r w0 l l w) (a at_ x1 x2 x3 k : Int) (q : Bool) (hk : bits .and .i64 a 15 = k) (k8 : k < 8) (k14 : ¬ 14 ≤ k) (hx : okNm (x1, x2, x3)) (h1 : -9223372036854775808 ≤ at_) (h2 : at_ ≤ 9223372036854775807) (hfew : l.length + 1 ≤ 100000) :
    Calls Try.prog 8 #[.pointer (some ⟨s, 0, none⟩), .pointer (some ⟨r, 0, none⟩), actV a at_ x1 x2 x3 q] w fun e w' => e = .returned (.bool true) ∧ Same s r w0 l w' := by
  have hnd := Lib.hid h.nod
  have HX := Lib.hid hx
  obtain ⟨W, hW⟩ : ∃ W, W = w.alloc (.cells #[.int .i64 a, .int .i64 at_, .int .i64 x1, .int .i64 x2, .int .i64 x3, .bool q] 37) := ⟨_, rfl⟩
  have F0 : Hid (JK w.heap.size (actO a at_ x1 x2 x3 q) s r w0 l l W) := by rw [hW]; exact JK.of h _
  have HW : Hid (w.alloc (.cells #[.int .i64 a, .int .i64 at_, .int .i64 x1, .int .i64 x2, .int .i64 x3, .bool q] 37) = W) := hW.symm
  obtain ⟨o, ho⟩ : ∃ o, o = actO a at_ x1 x2 x3 q := ⟨_, rfl⟩
  rw [← ho] at F0
  have HO := Lib.hid ho
  have FD : Hid (JK w.heap.size o s r w0 l l W.drew) := F0.out.keep (Below.refl _ _).drew
  have ACT : Hid (∀ l1 m1 W1, Hid (JK w.heap.size o s r w0 l1 m1 W1) → (fun W2 => W2.cell? ⟨w.heap.size, 1, none⟩ = some (.int .i64 at_) ∧ W2.cell? ⟨w.heap.size, 2, none⟩ = some (.int .i64 x1) ∧ W2.cell? ⟨w.heap.size, 3, none⟩ = some (.int .i64 x2) ∧ W2.cell? ⟨w.heap.size, 4, none⟩ = some (.int .i64 x3) ∧ W2.cell? ⟨w.heap.size, 5, none⟩ = some (.bool q)) W1) := by
    intro l1 m1 W1 hW1
    have := hW1.out
    rw [HO.out] at this
    exact this.act
  clear hW ho hx h
  unfold actV
  go_enter Try.func8, Try.ntmps8
  go_upto_region 5 with fail
  rw [HW.out]
  obtain ⟨se, hse⟩ : ∃ se, se = putE l at_ (x1, x2, x3) := ⟨_, rfl⟩
  obtain ⟨l', hl'⟩ : ∃ l', l' = putL l at_ ((x1, x2, x3), q) := ⟨_, rfl⟩
  have HSE := Lib.hid hse
  have HL' := Lib.hid hl'
  clear hse hl'
  have C1 : Hid (∀ W1, Hid (JK w.heap.size o s r w0 l l W1) → Calls Try.prog 12 #[.pointer (some ⟨s, 0, none⟩), .int .i64 at_, .agg #[.int .i64 x1, .int .i64 x2, .int .i64 x3], .bool q] W1 fun e w' => e = .returned (.int .i64 se) ∧ Hid (JK w.heap.size o s r w0 l' l w')) := by
    intro W1 hW1
    refine (hW1.out.put (a := at_) (x := (x1, x2, x3)) (sn := q) HX.out h1 h2 hfew).mono ?_
    rintro e w' ⟨he, h2⟩
    rw [← HL'.out] at h2
    exact ⟨by rw [he, HSE.out], h2⟩
  have C2 : Hid (∀ W1, Hid (JK w.heap.size o s r w0 l' l W1) → Calls Try.prog 14 #[.pointer (some ⟨r, 0, none⟩), .int .i64 at_, .agg #[.int .i64 x1, .int .i64 x2, .int .i64 x3], .bool q] W1 fun e w' => e = .returned (.int .i64 se) ∧ Hid (JK w.heap.size o s r w0 l' l' w')) := by
    intro W1 hW1
    refine (hW1.out.refPut (a := at_) (x := (x1, x2, x3)) (sn := q) h1 h2 hfew).mono ?_
    rintro e w' ⟨he, h2⟩
    rw [← HL'.out] at h2
    exact ⟨by rw [he, HSE.out], h2⟩
  refine wp_region_noPanic ?_
  refine wp_region_held_drew (S := fun W2 => W2.cell? ⟨w.heap.size, 1, none⟩ = some (.int .i64 at_) ∧ W2.cell? ⟨w.heap.size, 2, none⟩ = some (.int .i64 x1) ∧ W2.cell? ⟨w.heap.size, 3, none⟩ = some (.int .i64 x2) ∧ W2.cell? ⟨w.heap.size, 4, none⟩ = some (.int .i64 x3) ∧ W2.cell? ⟨w.heap.size, 5, none⟩ = some (.bool q)) (by kernel_rfl) (ACT.out _ _ _ FD) (fun hHeld => ?_)
  refine wpAnyH_take (i := 0) (oi := { dst := some 50, op := Op.move (Operand.tmp 0), type := 24, pos := "law.go:58", after := #[], guard := none }) (v := ?v13) rfl (by kernel_rfl) (by kernel_rfl) (by kernel_rfl) (fun _ _ _ h => h) (Or.inl ⟨by rfl, ?y13⟩) hHeld ?r13
  case y13 =>
    intro wv hSw
    (try dsimp only at hSw)
    go_simp
    all_goals (with_reducible rfl)
  simp only [Act.put, List.setIfInBounds_toArray, List.set_cons_zero, List.set_cons_succ]
  refine wpAnyH_take (i := 1) (oi := { dst := some 51, op := Op.fieldAddr 37 (Operand.tmp 5) 1, type := 0, pos := "law.go:58", after := #[], guard := none }) (v := ?v14) rfl (by kernel_rfl) (by kernel_rfl) (by kernel_rfl) (fun _ _ _ h => h) (Or.inl ⟨by rfl, ?y14⟩) hHeld ?r14
  case y14 =>
    intro wv hSw
    (try dsimp only at hSw)
    go_simp
    all_goals (with_reducible rfl)
  simp only [Act.put, List.setIfInBounds_toArray, List.set_cons_zero, List.set_cons_succ]
  refine wpAnyH_take (i := 2) (oi := { dst := some 52, op := Op.load 3 (Operand.tmp 51), type := 3, pos := "law.go:58", after := #[{ on := 1, ground := Ground.data }], guard := none }) (v := ?v15) rfl (by kernel_rfl) (by kernel_rfl) (by kernel_rfl) (fun _ _ _ h => h) (Or.inl ⟨by rfl, ?y15⟩) hHeld ?r15
  case y15 =>
    intro wv hSw
    (try dsimp only at hSw)
    go_simp
    all_goals (with_reducible rfl)
  simp only [Act.put, List.setIfInBounds_toArray, List.set_cons_zero, List.set_cons_succ]
  refine wpAnyH_take (i := 3) (oi := { dst := some 53, op := Op.fieldAddr 37 (Operand.tmp 5) 2, type := 0, pos := "law.go:58", after := #[], guard := none }) (v := ?v16) rfl (by kernel_rfl) (by kernel_rfl) (by kernel_rfl) (fun _ _ _ h => h) (Or.inl ⟨by rfl, ?y16⟩) hHeld ?r16
  case y16 =>
    intro wv hSw
    (try dsimp only at hSw)
    go_simp
    all_goals (with_reducible rfl)
  simp only [Act.put, List.setIfInBounds_toArray, List.set_cons_zero, List.set_cons_succ]
  refine wpAnyH_take (i := 4) (oi := { dst := some 54, op := Op.load 35 (Operand.tmp 53), type := 35, pos := "law.go:58", after := #[{ on := 3, ground := Ground.data }], guard := none }) (v := ?v17) rfl (by kernel_rfl) (by kernel_rfl) (by kernel_rfl) (fun _ _ _ h => h) (Or.inl ⟨by rfl, ?y17⟩) hHeld ?r17
  case y17 =>
    intro wv hSw
    (try dsimp only at hSw)
    go_simp
    all_goals (with_reducible rfl)
  simp only [Act.put, List.setIfInBounds_toArray, List.set_cons_zero, List.set_cons_succ]
  refine wpAnyH_take (i := 5) (oi := { dst := some 55, op := Op.fieldAddr 37 (Operand.tmp 5) 3, type := 0, pos := "law.go:58", after := #[], guard := none }) (v := ?v18) rfl (by kernel_rfl) (by kernel_rfl) (by kernel_rfl) (fun _ _ _ h => h) (Or.inl ⟨by rfl, ?y18⟩) hHeld ?r18
  case y18 =>
    intro wv hSw
    (try dsimp only at hSw)
    go_simp
    all_goals (with_reducible rfl)
  simp only [Act.put, List.setIfInBounds_toArray, List.set_cons_zero, List.set_cons_succ]
  refine wpAnyH_take (i := 6) (oi := { dst := some 56, op := Op.load 4 (Operand.tmp 55), type := 4, pos := "law.go:58", after := #[{ on := 5, ground := Ground.data }], guard := none }) (v := ?v19) rfl (by kernel_rfl) (by kernel_rfl) (by kernel_rfl) (fun _ _ _ h => h) (Or.inl ⟨by rfl, ?y19⟩) hHeld ?r19
  case y19 =>
    intro wv hSw
    (try dsimp only at hSw)
    go_simp
    all_goals (with_reducible rfl)
  simp only [Act.put, List.setIfInBounds_toArray, List.set_cons_zero, List.set_cons_succ]
  refine wpAnyH_take (i := 8) (oi := { dst := some 58, op := Op.move (Operand.tmp 1), type := 26, pos := "law.go:58", after := #[], guard := none }) (v := ?v20) rfl (by kernel_rfl) (by kernel_rfl) (by kernel_rfl) (fun _ _ _ h => h) (Or.inl ⟨by rfl, ?y20⟩) hHeld ?r20
  case y20 =>
    intro wv hSw
    (try dsimp only at hSw)
    go_simp
    all_goals (with_reducible rfl)
  simp only [Act.put, List.setIfInBounds_toArray, List.set_cons_zero, List.set_cons_succ]
  refine wpAnyH_take (i := 9) (oi := { dst := some 59, op := Op.fieldAddr 37 (Operand.tmp 5) 1, type := 0, pos := "law.go:58", after := #[], guard := none }) (v := ?v21) rfl (by kernel_rfl) (by kernel_rfl) (by kernel_rfl) (fun _ _ _ h => h) (Or.inl ⟨by rfl, ?y21⟩) hHeld ?r21
  case y21 =>
    intro wv hSw
    (try dsimp only at hSw)
    go_simp
    all_goals (with_reducible rfl)
  simp only [Act.put, List.setIfInBounds_toArray, List.set_cons_zero, List.set_cons_succ]
  refine wpAnyH_take (i := 10) (oi := { dst := some 60, op := Op.load 3 (Operand.tmp 59), type := 3, pos := "law.go:58", after := #[{ on := 9, ground := Ground.data }], guard := none }) (v := ?v22) rfl (by kernel_rfl) (by kernel_rfl) (by kernel_rfl) (fun _ _ _ h => h) (Or.inl ⟨by rfl, ?y22⟩) hHeld ?r22
  case y22 =>
    intro wv hSw
    (try dsimp only at hSw)
    go_simp
    all_goals (with_reducible rfl)
  simp only [Act.put, List.setIfInBounds_toArray, List.set_cons_zero, List.set_cons_succ]
  refine wpAnyH_take (i := 11) (oi := { dst := some 61, op := Op.fieldAddr 37 (Operand.tmp 5) 2, type := 0, pos := "law.go:58", after := #[], guard := none }) (v := ?v23) rfl (by kernel_rfl) (by kernel_rfl) (by kernel_rfl) (fun _ _ _ h => h) (Or.inl ⟨by rfl, ?y23⟩) hHeld ?r23
  case y23 =>
    intro wv hSw
    (try dsimp only at hSw)
    go_simp
    all_goals (with_reducible rfl)
  simp only [Act.put, List.setIfInBounds_toArray, List.set_cons_zero, List.set_cons_succ]
  refine wpAnyH_take (i := 12) (oi := { dst := some 62, op := Op.load 35 (Operand.tmp 61), type := 35, pos := "law.go:58", after := #[{ on := 11, ground := Ground.data }], guard := none }) (v := ?v24) rfl (by kernel_rfl) (by kernel_rfl) (by kernel_rfl) (fun _ _ _ h => h) (Or.inl ⟨by rfl, ?y24⟩) hHeld ?r24
  case y24 =>
    intro wv hSw
    (try dsimp only at hSw)
    go_simp
    all_goals (with_reducible rfl)
  simp only [Act.put, List.setIfInBounds_toArray, List.set_cons_zero, List.set_cons_succ]
  refine wpAnyH_take (i := 13) (oi := { dst := some 63, op := Op.fieldAddr 37 (Operand.tmp 5) 3, type := 0, pos := "law.go:58", after := #[], guard := none }) (v := ?v25) rfl (by kernel_rfl) (by kernel_rfl) (by kernel_rfl) (fun _ _ _ h => h) (Or.inl ⟨by rfl, ?y25⟩) hHeld ?r25
  case y25 =>
    intro wv hSw
    (try dsimp only at hSw)
    go_simp
    all_goals (with_reducible rfl)
  simp only [Act.put, List.setIfInBounds_toArray, List.set_cons_zero, List.set_cons_succ]
  refine wpAnyH_take (i := 14) (oi := { dst := some 64, op := Op.load 4 (Operand.tmp 63), type := 4, pos := "law.go:58", after := #[{ on := 13, ground := Ground.data }], guard := none }) (v := ?v26) rfl (by kernel_rfl) (by kernel_rfl) (by kernel_rfl) (fun _ _ _ h => h) (Or.inl ⟨by rfl, ?y26⟩) hHeld ?r26
  case y26 =>
    intro wv hSw
    (try dsimp only at hSw)
    go_simp
    all_goals (with_reducible rfl)
  simp only [Act.put, List.setIfInBounds_toArray, List.set_cons_zero, List.set_cons_succ]
  refine wpAnyH_ready (rs := [7]) (by kernel_rfl) (by simp) ?_
  refine AllReadyH.cons (o := { dst := some 57, op := Op.call { callee := Callee.value (Operand.func 12), args := #[Operand.tmp 50, Operand.tmp 52, Operand.tmp 54, Operand.tmp 56], argTypes := #[24, 3, 35, 4] }, type := 43, pos := "law.go:58", after := #[{ on := 0, ground := Ground.data }, { on := 2, ground := Ground.data }, { on := 4, ground := Ground.data }, { on := 6, ground := Ground.data }], guard := none }) rfl (fun K hK => ?_) AllReadyH.nil
  go_simp
  refine (C1.out _ FD).mono ?_
  rintro e w4 ⟨rfl, HJ4⟩
  go_simp
  refine hK.out _ _ (by exact ACT.out _ _ _ HJ4) (fun hHeld => ?_)
  clear hK K
  (try simp only [Act.put, List.setIfInBounds_toArray, List.set_cons_zero, List.set_cons_succ])
  refine wpAnyH_ready (rs := [15]) (by kernel_rfl) (by simp) ?_
  refine AllReadyH.cons (o := { dst := some 65, op := Op.call { callee := Callee.value (Operand.func 14), args := #[Operand.tmp 58, Operand.tmp 60, Operand.tmp 62, Operand.tmp 64], argTypes := #[26, 3, 35, 4] }, type := 43, pos := "law.go:58", after := #[{ on := 8, ground := Ground.data }, { on := 10, ground := Ground.data }, { on := 12, ground := Ground.data }, { on := 14, ground := Ground.data }, { on := 7, ground := Ground.chain }], guard := none }) rfl (fun K hK => ?_) AllReadyH.nil
  go_simp
  refine (C2.out _ HJ4).mono ?_
  rintro e w5 ⟨rfl, HJ5⟩
  go_simp
  refine hK.out _ _ (by exact ACT.out _ _ _ HJ5) (fun hHeld => ?_)
  clear hK K
  (try simp only [Act.put, List.setIfInBounds_toArray, List.set_cons_zero, List.set_cons_succ])
  refine wpAnyH_take (i := 16) (oi := { dst := some 66, op := Op.binOp BinOp.eql 43 (Operand.tmp 57) (Operand.tmp 65) 43, type := 4, pos := "law.go:58", after := #[{ on := 7, ground := Ground.data }, { on := 15, ground := Ground.data }], guard := none }) (v := ?v27) rfl (by kernel_rfl) (by kernel_rfl) (by kernel_rfl) (fun _ _ _ h => h) (Or.inl ⟨by rfl, ?y27⟩) hHeld ?r27
  case y27 =>
    intro wv hSw
    (try dsimp only at hSw)
    go_simp
    all_goals (with_reducible rfl)
  simp only [Act.put, List.setIfInBounds_toArray, List.set_cons_zero, List.set_cons_succ]
  refine wpAnyH_take (i := 17) (oi := { dst := some 6, op := Op.assign (Operand.tmp 66), type := 4, pos := "law.go:58", after := #[{ on := 16, ground := Ground.data }, { on := 15, ground := Ground.chain }, { on := 0, ground := Ground.phase }, { on := 1, ground := Ground.phase }, { on := 2, ground := Ground.phase }, { on := 3, ground := Ground.phase }, { on := 4, ground := Ground.phase }, { on := 5, ground := Ground.phase }, { on := 6, ground := Ground.phase }, { on := 7, ground := Ground.phase }, { on := 8, ground := Ground.phase }, { on := 9, ground := Ground.phase }, { on := 10, ground := Ground.phase }, { on := 11, ground := Ground.phase }, { on := 12, ground := Ground.phase }, { on := 13, ground := Ground.phase }, { on := 14, ground := Ground.phase }, { on := 15, ground := Ground.phase }, { on := 16, ground := Ground.phase }], guard := none }) (v := ?v28) rfl (by kernel_rfl) (by kernel_rfl) (by kernel_rfl) (fun _ _ _ h => h) (Or.inl ⟨by rfl, ?y28⟩) hHeld ?r28
  case y28 =>
    intro wv hSw
    (try dsimp only at hSw)
    go_simp
    all_goals (with_reducible rfl)
  simp only [Act.put, List.setIfInBounds_toArray, List.set_cons_zero, List.set_cons_succ]
  refine wpAnyH_done (by kernel_rfl) ?_ _
  refine NoPanic.normal ?_
  clear hHeld
  go_wp2
  go_ret
  exact ⟨by trivial, l', by rw [HL'.out]; exact putL_le _ _ _, HJ5.out.jo⟩


end Go.Proofs.Ytnbgnjpjdplocaa.Q10
