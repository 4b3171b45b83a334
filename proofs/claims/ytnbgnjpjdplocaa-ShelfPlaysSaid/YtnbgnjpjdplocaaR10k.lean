/-
  Layer 10: an act on both shelves: Find, Place, all.
-/
import Derived.Test.YtnbgnjpjdplocaaR10h
namespace Go.Proofs.Ytnbgnjpjdplocaa.Q10
open Go.RowKit Go.PlainAid
set_option linter.unusedVariables false
set_option linter.unusedSimpArgs false

set_option maxRecDepth 100000 in
set_option maxHeartbeats 4000000 in
theorem same_find (s r : Nat) (w0 w : World) (l : List En) (h : JO s r w0 l l w) (a at_ x1 x2 x3 : Int) (q : Bool) (hk : bits .and .i64 a 15 = 11)  (hx : okNm (x1, x2, x3)) (h1 : -9223372036854775808 ≤ at_) (h2 : at_ ≤ 9223372036854775807) (hfew : l.length + 1 ≤ 100000) :
    Calls Try.prog 8 #[.pointer (some ⟨s, 0, none⟩), .pointer (some ⟨r, 0, none⟩), actV a at_ x1 x2 x3 q] w fun e w' => e = .returned (.bool true) ∧ Same s r w0 l w' := by
  have hnd := Lib.hid h.nod
  have HX := Lib.hid hx
  obtain ⟨W, hW⟩ : ∃ W, W = w.alloc (.cells #[.int .i64 a, .int .i64 at_, .int .i64 x1, .int .i64 x2, .int .i64 x3, .bool q] 37) := ⟨_, rfl⟩
  have F0 : Hid (JK w.heap.size (actO a at_ x1 x2 x3 q) s r w0 l l W) := by rw [hW]; exact JK.of h _
  have HW : Hid (w.alloc (.cells #[.int .i64 a, .int .i64 at_, .int .i64 x1, .int .i64 x2, .int .i64 x3, .bool q] 37) = W) := hW.symm
  obtain ⟨o, ho⟩ : ∃ o, o = actO a at_ x1 x2 x3 q := ⟨_, rfl⟩
  rw [← ho] at F0
  have HO := Lib.hid ho
  have FD : Hid (JK w.heap.size o s r w0 l l W.drew) := F0.out.keep (Below.refl _ _).drew
  have ACT : Hid (∀ l1 m1 W1, Hid (JK w.heap.size o s r w0 l1 m1 W1) → (fun W2 => W2.cell? ⟨w.heap.size, 1, none⟩ = some (.int .i64 at_) ∧ W2.cell? ⟨w.heap.size, 2, none⟩ = some (.int .i64 x1) ∧ W2.cell? ⟨w.heap.size, 3, none⟩ = some (.int .i64 x2) ∧ W2.cell? ⟨w.heap.size, 4, none⟩ = some (.int .i64 x3) ∧ W2.cell? ⟨w.heap.size, 5, none⟩ = some (.bool q)) W1) := by
    intro l1 m1 W1 hW1
    have := hW1.out
    rw [HO.out] at this
    exact this.act
  clear hW ho hx h
  unfold actV
  go_enter Try.func8, Try.ntmps8
  go_upto_region 9 with fail
  rw [HW.out]
  obtain ⟨a1, a2, a3, a4, a5⟩ := ACT.out _ _ _ F0
  have C0 := Lib.hid (F0.out.jo.find (a := at_) h1 h2)
  obtain ⟨⟨⟨y1, y2, y3⟩, ef⟩, hxx⟩ : ∃ x, x = findR l at_ := ⟨_, rfl⟩
  have HXX := Lib.hid hxx
  rw [← hxx] at C0
  simp only [nmV] at C0
  clear hxx
  go_wp2_with fail
  refine (C0.out).mono ?_
  rintro e w4 ⟨rfl, hb4⟩
  have F4 : Hid (JK w.heap.size o s r w0 l l w4) := F0.out.keep hb4
  have hka : Below w4.heap.size w4 (w4.alloc (.cells #[.int .i64 y1, .int .i64 y2, .int .i64 y3] 35)) := (Below.refl _ _).alloc (Nat.le_refl _) _
  have F5 : Hid (JK w.heap.size o s r w0 l l (w4.alloc (.cells #[.int .i64 y1, .int .i64 y2, .int .i64 y3] 35))) := F4.out.keep hka
  clear a1 a2 a3 a4 a5
  obtain ⟨a1, a2, a3, a4, a5⟩ := ACT.out _ _ _ F4
  obtain ⟨b1, b2, b3, b4, b5⟩ := ACT.out _ _ _ F5
  have C5 := Lib.hid (F5.out.jo.refFind (a := at_) h1 h2)
  rw [← HXX.out] at C5
  simp only [nmV] at C5
  clear hb4 C0 hka
  go_wp2_with fail
  refine (C5.out).mono ?_
  rintro e w6 ⟨rfl, hb6⟩
  have hbx := (hb6.block w4.heap.size (by simp)).trans (heap_alloc_new w4 (.cells #[.int .i64 y1, .int .i64 y2, .int .i64 y3] 35))
  have z0 := cells_at hbx 0
  have z1 := cells_at hbx 1
  have z2 := cells_at hbx 2
  have hbl := heap_lt hbx
  have hbne : w4.heap.size ≠ w6.heap.size := by omega
  have F7 : Hid (JK w.heap.size o s r w0 l l (w6.alloc (.cells #[.int .i64 y1, .int .i64 y2, .int .i64 y3] 35))) := (F5.out.keep hb6).keep ((Below.refl _ _).alloc (Nat.le_refl _) _)
  have hEq : ∀ W : World, (binOp .eql 35 (.agg #[.int .i64 y1, .int .i64 y2, .int .i64 y3]) (.agg #[.int .i64 y1, .int .i64 y2, .int .i64 y3])).run Try.prog W = .ok (.bool true) W := fun W => by rw [nm_eql]; simp
  clear hb6 F5 C5 hbx a1 a2 a3 a4 a5 b1 b2 b3 b4 b5
  go_wp2
  go_ret
  exact ⟨by trivial, l, by omega, F7.out.jo⟩

set_option maxRecDepth 100000 in
set_option maxHeartbeats 4000000 in
theorem same_place (s r : Nat) (w0 w : World) (l : List En) (h : JO s r w0 l l w) (a at_ x1 x2 x3 : Int) (q : Bool) (hk : bits .and .i64 a 15 = 12)  (hx : okNm (x1, x2, x3)) (h1 : -9223372036854775808 ≤ at_) (h2 : at_ ≤ 9223372036854775807) (hfew : l.length + 1 ≤ 100000) :
    Calls Try.prog 8 #[.pointer (some ⟨s, 0, none⟩), .pointer (some ⟨r, 0, none⟩), actV a at_ x1 x2 x3 q] w fun e w' => e = .returned (.bool true) ∧ Same s r w0 l w' := by
  have hnd := Lib.hid h.nod
  have HX := Lib.hid hx
  obtain ⟨W, hW⟩ : ∃ W, W = w.alloc (.cells #[.int .i64 a, .int .i64 at_, .int .i64 x1, .int .i64 x2, .int .i64 x3, .bool q] 37) := ⟨_, rfl⟩
  have F0 : Hid (JK w.heap.size (actO a at_ x1 x2 x3 q) s r w0 l l W) := by rw [hW]; exact JK.of h _
  have HW : Hid (w.alloc (.cells #[.int .i64 a, .int .i64 at_, .int .i64 x1, .int .i64 x2, .int .i64 x3, .bool q] 37) = W) := hW.symm
  obtain ⟨o, ho⟩ : ∃ o, o = actO a at_ x1 x2 x3 q := ⟨_, rfl⟩
  rw [← ho] at F0
  have HO := Lib.hid ho
  have FD : Hid (JK w.heap.size o s r w0 l l W.drew) := F0.out.keep (Below.refl _ _).drew
  have ACT : Hid (∀ l1 m1 W1, Hid (JK w.heap.size o s r w0 l1 m1 W1) → (fun W2 => W2.cell? ⟨w.heap.size, 1, none⟩ = some (.int .i64 at_) ∧ W2.cell? ⟨w.heap.size, 2, none⟩ = some (.int .i64 x1) ∧ W2.cell? ⟨w.heap.size, 3, none⟩ = some (.int .i64 x2) ∧ W2.cell? ⟨w.heap.size, 4, none⟩ = some (.int .i64 x3) ∧ W2.cell? ⟨w.heap.size, 5, none⟩ = some (.bool q)) W1) := by
    intro l1 m1 W1 hW1
    have := hW1.out
    rw [HO.out] at this
    exact this.act
  clear hW ho hx h
  unfold actV
  go_enter Try.func8, Try.ntmps8
  go_upto_region 13 with fail
  rw [HW.out]
  obtain ⟨a1, a2, a3, a4, a5⟩ := ACT.out _ _ _ F0
  have C0 := Lib.hid (F0.out.jo.place HX.out)
  obtain ⟨⟨p1, p2, p3⟩, hpp⟩ : ∃ p, p = placeR l (x1, x2, x3) := ⟨_, rfl⟩
  have HPP := Lib.hid hpp
  rw [← hpp] at C0
  simp only [nmV] at C0
  clear hpp
  go_wp2_with fail
  refine (C0.out).mono ?_
  rintro e w4 ⟨rfl, hb4⟩
  have F4 : Hid (JK w.heap.size o s r w0 l l w4) := F0.out.keep hb4
  clear a1 a2 a3 a4 a5
  obtain ⟨a1, a2, a3, a4, a5⟩ := ACT.out _ _ _ F4
  have C5 := Lib.hid (F4.out.jo.refPlace hnd.out (x := (x1, x2, x3)))
  rw [← HPP.out] at C5
  simp only [nmV] at C5
  clear hb4 C0
  go_wp2_with fail
  refine (C5.out).mono ?_
  rintro e w6 ⟨rfl, hb6⟩
  have F7 : Hid (JK w.heap.size o s r w0 l l w6) := F4.out.keep hb6
  clear hb6 C5 a1 a2 a3 a4 a5
  go_wp2
  go_ret
  exact ⟨by trivial, l, by omega, F7.out.jo⟩

set_option maxRecDepth 100000 in
set_option maxHeartbeats 4000000 in
theorem same_all (s r : Nat) (w0 w : World) (l : List En) (h : JO s r w0 l l w) (a at_ x1 x2 x3 k : Int) (q : Bool) (hk : bits .and .i64 a 15 = k) (k8 : ¬ k < 8) (k11 : ¬ k < 11) (k11b : ¬ k = 11) (k12 : ¬ k = 12) (k14 : ¬ 14 ≤ k) (hx : okNm (x1, x2, x3)) (h1 : -9223372036854775808 ≤ at_) (h2 : at_ ≤ 9223372036854775807) (hfew : l.length + 1 ≤ 100000) :
    Calls Try.prog 8 #[.pointer (some ⟨s, 0, none⟩), .pointer (some ⟨r, 0, none⟩), actV a at_ x1 x2 x3 q] w fun e w' => e = .returned (.bool true) ∧ Same s r w0 l w' := by
  have hnd := Lib.hid h.nod
  have HX := Lib.hid hx
  obtain ⟨W, hW⟩ : ∃ W, W = w.alloc (.cells #[.int .i64 a, .int .i64 at_, .int .i64 x1, .int .i64 x2, .int .i64 x3, .bool q] 37) := ⟨_, rfl⟩
  have F0 : Hid (JK w.heap.size (actO a at_ x1 x2 x3 q) s r w0 l l W) := by rw [hW]; exact JK.of h _
  have HW : Hid (w.alloc (.cells #[.int .i64 a, .int .i64 at_, .int .i64 x1, .int .i64 x2, .int .i64 x3, .bool q] 37) = W) := hW.symm
  obtain ⟨o, ho⟩ : ∃ o, o = actO a at_ x1 x2 x3 q := ⟨_, rfl⟩
  rw [← ho] at F0
  have HO := Lib.hid ho
  have FD : Hid (JK w.heap.size o s r w0 l l W.drew) := F0.out.keep (Below.refl _ _).drew
  have ACT : Hid (∀ l1 m1 W1, Hid (JK w.heap.size o s r w0 l1 m1 W1) → (fun W2 => W2.cell? ⟨w.heap.size, 1, none⟩ = some (.int .i64 at_) ∧ W2.cell? ⟨w.heap.size, 2, none⟩ = some (.int .i64 x1) ∧ W2.cell? ⟨w.heap.size, 3, none⟩ = some (.int .i64 x2) ∧ W2.cell? ⟨w.heap.size, 4, none⟩ = some (.int .i64 x3) ∧ W2.cell? ⟨w.heap.size, 5, none⟩ = some (.bool q)) W1) := by
    intro l1 m1 W1 hW1
    have := hW1.out
    rw [HO.out] at this
    exact this.act
  clear hW ho hx h
  unfold actV
  go_enter Try.func8, Try.ntmps8
  go_upto_region 16 with fail
  rw [HW.out]
  obtain ⟨A0, q0, c0⟩ := FD.out.jo.facts
  have hq : (listR l q).length ≤ 1000000 := by
    have := listR_le l q
    omega
  have HQ := Lib.hid hq
  have KK : Hid (∀ W1, Hid (JK w.heap.size o s r w0 l l W1 ∧ W1.cell? ⟨r, 0, none⟩ = some (.slice A0 l.length q0)) → (fun W2 => W2.cell? ⟨w.heap.size, 5, none⟩ = some (.bool q) ∧ W2.cell? ⟨r, 0, none⟩ = some (.slice A0 l.length q0)) W1) := by
    intro W1 hW1
    have := hW1.out.1
    rw [HO.out] at this
    exact ⟨this.act.2.2.2.2, hW1.out.2⟩
  have KP : Hid (∀ W1 W2, Below W1.heap.size W1 W2 → Hid (JK w.heap.size o s r w0 l l W1 ∧ W1.cell? ⟨r, 0, none⟩ = some (.slice A0 l.length q0)) → Hid (JK w.heap.size o s r w0 l l W2 ∧ W2.cell? ⟨r, 0, none⟩ = some (.slice A0 l.length q0))) := by
    intro W1 W2 hb hW1
    exact ⟨hW1.out.1.keep hb, (hb.cell (p := ⟨r, 0, none⟩) (World.block_lt_of_cell? W1 _ hW1.out.2)).trans hW1.out.2⟩
  have G0 : Hid (JK w.heap.size o s r w0 l l W.drew ∧ W.drew.cell? ⟨r, 0, none⟩ = some (.slice A0 l.length q0)) := ⟨FD.out, c0⟩
  obtain ⟨sl, hsl⟩ : ∃ sl, sl = (seenN l : Int) := ⟨_, rfl⟩
  have HSL := Lib.hid hsl
  clear hq hsl
  refine wp_region_noPanic ?_
  refine wp_region_held_drew (S := fun W2 => W2.cell? ⟨w.heap.size, 5, none⟩ = some (.bool q) ∧ W2.cell? ⟨r, 0, none⟩ = some (.slice A0 l.length q0)) (by kernel_rfl) (KK.out _ G0) (fun hHeld => ?_)
  refine wpAnyH_take (i := 0) (oi := { dst := some 140, op := Op.move (Operand.tmp 0), type := 24, pos := "law.go:70", after := #[], guard := none }) (v := ?v1) rfl (by kernel_rfl) (by kernel_rfl) (by kernel_rfl) (fun _ _ _ h => h) (Or.inl ⟨by rfl, ?y1⟩) hHeld ?r1
  case y1 =>
    intro wv hSw
    (try dsimp only at hSw)
    go_simp
    all_goals (with_reducible rfl)
  simp only [Act.put, List.setIfInBounds_toArray, List.set_cons_zero, List.set_cons_succ]
  refine wpAnyH_take (i := 2) (oi := { dst := some 142, op := Op.move (Operand.tmp 1), type := 26, pos := "law.go:70", after := #[], guard := none }) (v := ?v2) rfl (by kernel_rfl) (by kernel_rfl) (by kernel_rfl) (fun _ _ _ h => h) (Or.inl ⟨by rfl, ?y2⟩) hHeld ?r2
  case y2 =>
    intro wv hSw
    (try dsimp only at hSw)
    go_simp
    all_goals (with_reducible rfl)
  simp only [Act.put, List.setIfInBounds_toArray, List.set_cons_zero, List.set_cons_succ]
  refine wpAnyH_take (i := 3) (oi := { dst := some 143, op := Op.nilCheck (Operand.tmp 142), type := 0, pos := "law.go:70", after := #[{ on := 2, ground := Ground.data }], guard := none }) (v := ?v3) rfl (by kernel_rfl) (by kernel_rfl) (by kernel_rfl) (fun _ _ _ h => h) (Or.inl ⟨by rfl, ?y3⟩) hHeld ?r3
  case y3 =>
    intro wv hSw
    (try dsimp only at hSw)
    go_simp
    all_goals (with_reducible rfl)
  simp only [Act.put, List.setIfInBounds_toArray, List.set_cons_zero, List.set_cons_succ]
  refine wpAnyH_take (i := 4) (oi := { dst := some 144, op := Op.fieldAddr 30 (Operand.tmp 143) 0, type := 0, pos := "law.go:70", after := #[{ on := 3, ground := Ground.data }], guard := none }) (v := ?v4) rfl (by kernel_rfl) (by kernel_rfl) (by kernel_rfl) (fun _ _ _ h => h) (Or.inl ⟨by rfl, ?y4⟩) hHeld ?r4
  case y4 =>
    intro wv hSw
    (try dsimp only at hSw)
    go_simp
    all_goals (with_reducible rfl)
  simp only [Act.put, List.setIfInBounds_toArray, List.set_cons_zero, List.set_cons_succ]
  refine wpAnyH_take (i := 5) (oi := { dst := some 145, op := Op.load 27 (Operand.tmp 144), type := 27, pos := "law.go:70", after := #[{ on := 4, ground := Ground.data }], guard := none }) (v := ?v5) rfl (by kernel_rfl) (by kernel_rfl) (by kernel_rfl) (fun _ _ _ h => h) (Or.inl ⟨by rfl, ?y5⟩) hHeld ?r5
  case y5 =>
    intro wv hSw
    (try dsimp only at hSw)
    go_simp
    all_goals (with_reducible rfl)
  simp only [Act.put, List.setIfInBounds_toArray, List.set_cons_zero, List.set_cons_succ]
  refine wpAnyH_take (i := 6) (oi := { dst := some 146, op := Op.call { callee := Callee.builtin Builtin.len, args := #[Operand.tmp 145], argTypes := #[27] }, type := 3, pos := "law.go:70", after := #[{ on := 5, ground := Ground.data }], guard := none }) (v := ?v6) rfl (by kernel_rfl) (by kernel_rfl) (by kernel_rfl) (fun _ _ _ h => h) (Or.inl ⟨by rfl, ?y6⟩) hHeld ?r6
  case y6 =>
    intro wv hSw
    (try dsimp only at hSw)
    go_simp
    all_goals (with_reducible rfl)
  simp only [Act.put, List.setIfInBounds_toArray, List.set_cons_zero, List.set_cons_succ]
  refine wpAnyH_ready (rs := [1]) (by kernel_rfl) (by simp) ?_
  refine AllReadyH.cons (o := { dst := some 141, op := Op.call { callee := Callee.value (Operand.func 23), args := #[Operand.tmp 140], argTypes := #[24] }, type := 3, pos := "law.go:70", after := #[{ on := 0, ground := Ground.data }], guard := none }) rfl (fun K hK => ?_) AllReadyH.nil
  go_simp
  refine (G0.out.1.jo.all).mono ?_
  rintro e w3 ⟨rfl, hb3⟩
  have HJ3 := KP.out _ _ hb3 G0
  clear hb3
  go_simp
  refine hK.out _ _ (by exact KK.out _ HJ3) (fun hHeld => ?_)
  clear hK K
  (try simp only [Act.put, List.setIfInBounds_toArray, List.set_cons_zero, List.set_cons_succ])
  refine wpAnyH_take (i := 7) (oi := { dst := some 147, op := Op.binOp BinOp.eql 3 (Operand.tmp 141) (Operand.tmp 146) 3, type := 4, pos := "law.go:70", after := #[{ on := 1, ground := Ground.data }, { on := 6, ground := Ground.data }], guard := none }) (v := ?v7) rfl (by kernel_rfl) (by kernel_rfl) (by kernel_rfl) (fun _ _ _ h => h) (Or.inl ⟨by rfl, ?y7⟩) hHeld ?r7
  case y7 =>
    intro wv hSw
    (try dsimp only at hSw)
    go_simp
    all_goals (with_reducible rfl)
  simp only [Act.put, List.setIfInBounds_toArray, List.set_cons_zero, List.set_cons_succ]
  refine wpAnyH_take (i := 8) (oi := { dst := some 148, op := Op.move (Operand.tmp 147), type := 4, pos := "law.go:70", after := #[{ on := 7, ground := Ground.data }, { on := 1, ground := Ground.chain }], guard := none }) (v := ?v8) rfl (by kernel_rfl) (by kernel_rfl) (by kernel_rfl) (fun _ _ _ h => h) (Or.inl ⟨by rfl, ?y8⟩) hHeld ?r8
  case y8 =>
    intro wv hSw
    (try dsimp only at hSw)
    go_simp
    all_goals (with_reducible rfl)
  simp only [Act.put, List.setIfInBounds_toArray, List.set_cons_zero, List.set_cons_succ]
  refine wpAnyH_take (i := 9) (oi := { dst := some 149, op := Op.move (Operand.tmp 0), type := 24, pos := "law.go:70", after := #[{ on := 8, ground := Ground.guard }], guard := some (8, true) }) (v := ?v9) rfl (by kernel_rfl) (by kernel_rfl) (by kernel_rfl) (fun _ _ _ h => h) (Or.inl ⟨by rfl, ?y9⟩) hHeld ?r9
  case y9 =>
    intro wv hSw
    (try dsimp only at hSw)
    go_simp
    all_goals (with_reducible rfl)
  simp only [Act.put, List.setIfInBounds_toArray, List.set_cons_zero, List.set_cons_succ]
  refine wpAnyH_take (i := 11) (oi := { dst := some 151, op := Op.move (Operand.tmp 1), type := 26, pos := "law.go:70", after := #[{ on := 8, ground := Ground.guard }], guard := some (8, true) }) (v := ?v10) rfl (by kernel_rfl) (by kernel_rfl) (by kernel_rfl) (fun _ _ _ h => h) (Or.inl ⟨by rfl, ?y10⟩) hHeld ?r10
  case y10 =>
    intro wv hSw
    (try dsimp only at hSw)
    go_simp
    all_goals (with_reducible rfl)
  simp only [Act.put, List.setIfInBounds_toArray, List.set_cons_zero, List.set_cons_succ]
  refine wpAnyH_ready (rs := [10]) (by kernel_rfl) (by simp) ?_
  refine AllReadyH.cons (o := { dst := some 150, op := Op.call { callee := Callee.value (Operand.func 21), args := #[Operand.tmp 149], argTypes := #[24] }, type := 3, pos := "law.go:70", after := #[{ on := 9, ground := Ground.data }, { on := 8, ground := Ground.chain }, { on := 8, ground := Ground.guard }], guard := some (8, true) }) rfl (fun K hK => ?_) AllReadyH.nil
  go_simp
  refine (HJ3.out.1.jo.count).mono ?_
  rintro e w4 ⟨rfl, hb4⟩
  have HJ4 := KP.out _ _ hb4 HJ3
  clear hb4
  go_simp
  refine hK.out _ _ (by exact KK.out _ HJ4) (fun hHeld => ?_)
  clear hK K
  (try simp only [Act.put, List.setIfInBounds_toArray, List.set_cons_zero, List.set_cons_succ])
  refine wpAnyH_ready (rs := [12]) (by kernel_rfl) (by simp) ?_
  refine AllReadyH.cons (o := { dst := some 152, op := Op.call { callee := Callee.value (Operand.func 22), args := #[Operand.tmp 151], argTypes := #[26] }, type := 3, pos := "law.go:70", after := #[{ on := 11, ground := Ground.data }, { on := 10, ground := Ground.chain }, { on := 8, ground := Ground.guard }], guard := some (8, true) }) rfl (fun K hK => ?_) AllReadyH.nil
  go_simp
  refine (HJ4.out.1.jo.refCount).mono ?_
  rintro e w5 ⟨rfl, hb5⟩
  have HJ5 := KP.out _ _ hb5 HJ4
  clear hb5
  go_simp
  refine hK.out _ _ (by exact KK.out _ HJ5) (fun hHeld => ?_)
  clear hK K
  (try simp only [Act.put, List.setIfInBounds_toArray, List.set_cons_zero, List.set_cons_succ])
  refine wpAnyH_take (i := 13) (oi := { dst := some 153, op := Op.binOp BinOp.eql 3 (Operand.tmp 150) (Operand.tmp 152) 3, type := 4, pos := "law.go:70", after := #[{ on := 10, ground := Ground.data }, { on := 12, ground := Ground.data }, { on := 8, ground := Ground.guard }], guard := some (8, true) }) (v := ?v11) rfl (by kernel_rfl) (by kernel_rfl) (by kernel_rfl) (fun _ _ _ h => h) (Or.inl ⟨by rfl, ?y11⟩) hHeld ?r11
  case y11 =>
    intro wv hSw
    (try dsimp only at hSw)
    go_simp
    all_goals (with_reducible rfl)
  simp only [Act.put, List.setIfInBounds_toArray, List.set_cons_zero, List.set_cons_succ]
  refine wpAnyH_take (i := 14) (oi := { dst := some 154, op := Op.pick (Operand.tmp 148) (Operand.tmp 153) (Operand.const (Value.bool false)), type := 4, pos := "law.go:70", after := #[{ on := 8, ground := Ground.data }, { on := 13, ground := Ground.data }], guard := none }) (v := ?v12) rfl (by kernel_rfl) (by kernel_rfl) (by kernel_rfl) (fun _ _ _ h => h) (Or.inl ⟨by rfl, ?y12⟩) hHeld ?r12
  case y12 =>
    intro wv hSw
    (try dsimp only at hSw)
    go_simp
    all_goals (with_reducible rfl)
  simp only [Act.put, List.setIfInBounds_toArray, List.set_cons_zero, List.set_cons_succ]
  refine wpAnyH_take (i := 15) (oi := { dst := some 155, op := Op.move (Operand.tmp 154), type := 4, pos := "law.go:70", after := #[{ on := 14, ground := Ground.data }, { on := 12, ground := Ground.chain }], guard := none }) (v := ?v13) rfl (by kernel_rfl) (by kernel_rfl) (by kernel_rfl) (fun _ _ _ h => h) (Or.inl ⟨by rfl, ?y13⟩) hHeld ?r13
  case y13 =>
    intro wv hSw
    (try dsimp only at hSw)
    go_simp
    all_goals (with_reducible rfl)
  simp only [Act.put, List.setIfInBounds_toArray, List.set_cons_zero, List.set_cons_succ]
  refine wpAnyH_take (i := 16) (oi := { dst := some 156, op := Op.move (Operand.tmp 0), type := 24, pos := "law.go:70", after := #[{ on := 15, ground := Ground.guard }], guard := some (15, true) }) (v := ?v14) rfl (by kernel_rfl) (by kernel_rfl) (by kernel_rfl) (fun _ _ _ h => h) (Or.inl ⟨by rfl, ?y14⟩) hHeld ?r14
  case y14 =>
    intro wv hSw
    (try dsimp only at hSw)
    go_simp
    all_goals (with_reducible rfl)
  simp only [Act.put, List.setIfInBounds_toArray, List.set_cons_zero, List.set_cons_succ]
  refine wpAnyH_take (i := 17) (oi := { dst := some 157, op := Op.fieldAddr 37 (Operand.tmp 5) 3, type := 0, pos := "law.go:70", after := #[{ on := 15, ground := Ground.guard }], guard := some (15, true) }) (v := ?v15) rfl (by kernel_rfl) (by kernel_rfl) (by kernel_rfl) (fun _ _ _ h => h) (Or.inl ⟨by rfl, ?y15⟩) hHeld ?r15
  case y15 =>
    intro wv hSw
    (try dsimp only at hSw)
    go_simp
    all_goals (with_reducible rfl)
  simp only [Act.put, List.setIfInBounds_toArray, List.set_cons_zero, List.set_cons_succ]
  refine wpAnyH_take (i := 18) (oi := { dst := some 158, op := Op.load 4 (Operand.tmp 157), type := 4, pos := "law.go:70", after := #[{ on := 17, ground := Ground.data }, { on := 15, ground := Ground.guard }], guard := some (15, true) }) (v := ?v16) rfl (by kernel_rfl) (by kernel_rfl) (by kernel_rfl) (fun _ _ _ h => h) (Or.inl ⟨by rfl, ?y16⟩) hHeld ?r16
  case y16 =>
    intro wv hSw
    (try dsimp only at hSw)
    go_simp
    all_goals (with_reducible rfl)
  simp only [Act.put, List.setIfInBounds_toArray, List.set_cons_zero, List.set_cons_succ]
  refine wpAnyH_take (i := 20) (oi := { dst := some 160, op := Op.move (Operand.tmp 1), type := 26, pos := "law.go:70", after := #[{ on := 15, ground := Ground.guard }], guard := some (15, true) }) (v := ?v17) rfl (by kernel_rfl) (by kernel_rfl) (by kernel_rfl) (fun _ _ _ h => h) (Or.inl ⟨by rfl, ?y17⟩) hHeld ?r17
  case y17 =>
    intro wv hSw
    (try dsimp only at hSw)
    go_simp
    all_goals (with_reducible rfl)
  simp only [Act.put, List.setIfInBounds_toArray, List.set_cons_zero, List.set_cons_succ]
  refine wpAnyH_take (i := 21) (oi := { dst := some 161, op := Op.fieldAddr 37 (Operand.tmp 5) 3, type := 0, pos := "law.go:70", after := #[{ on := 15, ground := Ground.guard }], guard := some (15, true) }) (v := ?v18) rfl (by kernel_rfl) (by kernel_rfl) (by kernel_rfl) (fun _ _ _ h => h) (Or.inl ⟨by rfl, ?y18⟩) hHeld ?r18
  case y18 =>
    intro wv hSw
    (try dsimp only at hSw)
    go_simp
    all_goals (with_reducible rfl)
  simp only [Act.put, List.setIfInBounds_toArray, List.set_cons_zero, List.set_cons_succ]
  refine wpAnyH_take (i := 22) (oi := { dst := some 162, op := Op.load 4 (Operand.tmp 161), type := 4, pos := "law.go:70", after := #[{ on := 21, ground := Ground.data }, { on := 15, ground := Ground.guard }], guard := some (15, true) }) (v := ?v19) rfl (by kernel_rfl) (by kernel_rfl) (by kernel_rfl) (fun _ _ _ h => h) (Or.inl ⟨by rfl, ?y19⟩) hHeld ?r19
  case y19 =>
    intro wv hSw
    (try dsimp only at hSw)
    go_simp
    all_goals (with_reducible rfl)
  simp only [Act.put, List.setIfInBounds_toArray, List.set_cons_zero, List.set_cons_succ]
  refine wpAnyH_ready (rs := [19]) (by kernel_rfl) (by simp) ?_
  refine AllReadyH.cons (o := { dst := some 159, op := Op.call { callee := Callee.value (Operand.func 10), args := #[Operand.tmp 156, Operand.tmp 158], argTypes := #[24, 4] }, type := 27, pos := "law.go:70", after := #[{ on := 16, ground := Ground.data }, { on := 18, ground := Ground.data }, { on := 15, ground := Ground.chain }, { on := 15, ground := Ground.guard }], guard := some (15, true) }) rfl (fun K hK => ?_) AllReadyH.nil
  go_simp
  refine (HJ5.out.1.jo.list q).mono ?_
  rintro e w6 ⟨A6, c6, rfl, hr6, hb6⟩
  have HJ6 := KP.out _ _ hb6 HJ5
  have R6 := Lib.hid hr6
  clear hr6
  clear hb6
  go_simp
  refine hK.out _ _ (by exact KK.out _ HJ6) (fun hHeld => ?_)
  clear hK K
  (try simp only [Act.put, List.setIfInBounds_toArray, List.set_cons_zero, List.set_cons_succ])
  refine wpAnyH_ready (rs := [23]) (by kernel_rfl) (by simp) ?_
  refine AllReadyH.cons (o := { dst := some 163, op := Op.call { callee := Callee.value (Operand.func 11), args := #[Operand.tmp 160, Operand.tmp 162], argTypes := #[26, 4] }, type := 27, pos := "law.go:70", after := #[{ on := 20, ground := Ground.data }, { on := 22, ground := Ground.data }, { on := 19, ground := Ground.chain }, { on := 15, ground := Ground.guard }], guard := some (15, true) }) rfl (fun K hK => ?_) AllReadyH.nil
  go_simp
  refine (HJ6.out.1.jo.refList q).mono ?_
  rintro e w7 ⟨A7, c7, rfl, hr7, hb7⟩
  have HJ7 := KP.out _ _ hb7 HJ6
  have R7 := Lib.hid hr7
  have R6b := Lib.hid (R6.out.keep hb7)
  clear hr7
  clear hb7
  go_simp
  refine hK.out _ _ (by exact KK.out _ HJ7) (fun hHeld => ?_)
  clear hK K
  (try simp only [Act.put, List.setIfInBounds_toArray, List.set_cons_zero, List.set_cons_succ])
  refine wpAnyH_ready (rs := [24]) (by kernel_rfl) (by simp) ?_
  refine AllReadyH.cons (o := { dst := some 164, op := Op.call { callee := Callee.value (Operand.func 9), args := #[Operand.tmp 159, Operand.tmp 163], argTypes := #[27, 27] }, type := 4, pos := "law.go:70", after := #[{ on := 19, ground := Ground.data }, { on := 23, ground := Ground.data }, { on := 23, ground := Ground.chain }, { on := 15, ground := Ground.guard }], guard := some (15, true) }) rfl (fun K hK => ?_) AllReadyH.nil
  go_simp
  refine (sameIds_any A6 A7 _ c6 c7 _ w7 R6b.out R7.out rfl HQ.out).mono ?_
  rintro e w8 ⟨rfl, hb8⟩
  have HJ8 := KP.out _ _ hb8 HJ7
  clear hb8
  go_simp
  refine hK.out _ _ (by exact KK.out _ HJ8) (fun hHeld => ?_)
  clear hK K
  (try simp only [Act.put, List.setIfInBounds_toArray, List.set_cons_zero, List.set_cons_succ])
  refine wpAnyH_take (i := 25) (oi := { dst := some 165, op := Op.pick (Operand.tmp 155) (Operand.tmp 164) (Operand.const (Value.bool false)), type := 4, pos := "law.go:70", after := #[{ on := 15, ground := Ground.data }, { on := 24, ground := Ground.data }], guard := none }) (v := ?v20) rfl (by kernel_rfl) (by kernel_rfl) (by kernel_rfl) (fun _ _ _ h => h) (Or.inl ⟨by rfl, ?y20⟩) hHeld ?r20
  case y20 =>
    intro wv hSw
    (try dsimp only at hSw)
    go_simp
    all_goals (with_reducible rfl)
  simp only [Act.put, List.setIfInBounds_toArray, List.set_cons_zero, List.set_cons_succ]
  refine wpAnyH_take (i := 26) (oi := { dst := some 6, op := Op.assign (Operand.tmp 165), type := 4, pos := "law.go:70", after := #[{ on := 25, ground := Ground.data }, { on := 24, ground := Ground.chain }, { on := 0, ground := Ground.phase }, { on := 1, ground := Ground.phase }, { on := 2, ground := Ground.phase }, { on := 3, ground := Ground.phase }, { on := 4, ground := Ground.phase }, { on := 5, ground := Ground.phase }, { on := 6, ground := Ground.phase }, { on := 7, ground := Ground.phase }, { on := 8, ground := Ground.phase }, { on := 9, ground := Ground.phase }, { on := 10, ground := Ground.phase }, { on := 11, ground := Ground.phase }, { on := 12, ground := Ground.phase }, { on := 13, ground := Ground.phase }, { on := 14, ground := Ground.phase }, { on := 15, ground := Ground.phase }, { on := 16, ground := Ground.phase }, { on := 17, ground := Ground.phase }, { on := 18, ground := Ground.phase }, { on := 19, ground := Ground.phase }, { on := 20, ground := Ground.phase }, { on := 21, ground := Ground.phase }, { on := 22, ground := Ground.phase }, { on := 23, ground := Ground.phase }, { on := 24, ground := Ground.phase }, { on := 25, ground := Ground.phase }], guard := none }) (v := ?v21) rfl (by kernel_rfl) (by kernel_rfl) (by kernel_rfl) (fun _ _ _ h => h) (Or.inl ⟨by rfl, ?y21⟩) hHeld ?r21
  case y21 =>
    intro wv hSw
    (try dsimp only at hSw)
    go_simp
    all_goals (with_reducible rfl)
  simp only [Act.put, List.setIfInBounds_toArray, List.set_cons_zero, List.set_cons_succ]
  refine wpAnyH_done (by kernel_rfl) ?_ _
  refine NoPanic.normal ?_
  clear hHeld
  have F9 := Lib.hid HJ8.out.1
  go_wp2
  go_ret
  exact ⟨by trivial, l, by omega, F9.out.jo⟩


end Go.Proofs.Ytnbgnjpjdplocaa.Q10
