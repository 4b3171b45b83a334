/-
  Layer 8, walks of the program: may a group be? Check.
-/
import Derived.Test.YtphnimmhjnhajaaKW9k
namespace Go.Proofs.Ytphnimmhjnhajaa.W8
open Go.RowKit Go.PlainAid M8
set_option linter.unusedVariables false

/-- What stays while a group is looked at: the boxed group. -/
def HG (W : World) (G : GrpR) (w' : World) : Prop := GrpCells w' W.heap.size G ∧ W.heap.size < w'.heap.size ∧ Below W.heap.size W w'
theorem HG.keep {W : World} {G : GrpR} {a a' : World} (h : HG W G a) (hb : Below a.heap.size a a') : HG W G a' := ⟨h.1.keep hb h.2.1, Nat.lt_of_lt_of_le h.2.1 hb.size, chain h.2.2 hb⟩
theorem HG.new (W : World) (G : GrpR) : HG W G (W.alloc (.cells G.cells.toArray 27)) := ⟨grp_box (G := G) (heap_alloc_new W (.cells G.cells.toArray 27)), by simp, below_box _⟩
theorem HG.all {w : World} {G : GrpR} {a : World} (h : HG w G a) : a.cell? ⟨w.heap.size, 0, none⟩ = some (.int .i64 G.t) ∧ a.cell? ⟨w.heap.size, 1, none⟩ = some (.int .i64 G.r) ∧ a.cell? ⟨w.heap.size, 2, none⟩ = some (.int .i64 G.n) ∧ a.cell? ⟨w.heap.size, 3, none⟩ = some (.slice G.dA G.deps.length G.dc) ∧ a.cell? ⟨w.heap.size, 4, none⟩ = some (.int .i64 G.ut) ∧ a.cell? ⟨w.heap.size, 5, none⟩ = some (.int .i64 G.ur) ∧ a.cell? ⟨w.heap.size, 6, none⟩ = some (.slice G.oA G.xs.length G.oc) ∧ HG w G a := by
  obtain ⟨⟨d0, d1, d2, d3, d4, d5, d6⟩, h1, h2⟩ := id h
  exact ⟨d0, d1, d2, d3, d4, d5, d6, h⟩
theorem HG.vector {w : World} {G : GrpR} {a : World} {v : Bool} (h : HG w G a) (hr : Rd w G.dA (G.deps.map (Value.int .i64))) (hl : G.deps.length ≤ 1000000000) (hv : M5.vectorL G.deps = v) :
    Calls Try.prog 33 #[.slice G.dA G.deps.length G.dc] a fun e w' => e = .returned (.bool v) ∧ (w'.cell? ⟨w.heap.size, 0, none⟩ = some (.int .i64 G.t) ∧ w'.cell? ⟨w.heap.size, 1, none⟩ = some (.int .i64 G.r) ∧ w'.cell? ⟨w.heap.size, 2, none⟩ = some (.int .i64 G.n) ∧ w'.cell? ⟨w.heap.size, 3, none⟩ = some (.slice G.dA G.deps.length G.dc) ∧ w'.cell? ⟨w.heap.size, 4, none⟩ = some (.int .i64 G.ut) ∧ w'.cell? ⟨w.heap.size, 5, none⟩ = some (.int .i64 G.ur) ∧ w'.cell? ⟨w.heap.size, 6, none⟩ = some (.slice G.oA G.xs.length G.oc) ∧ HG w G w') :=
  (S5.vector_any G.dA _ G.dc G.deps a (hr.below h.2.2 (Nat.le_refl _)) rfl hl).mono fun e w' ⟨he, hb⟩ => ⟨by rw [he, ← hv], by rw [← hb]; exact h.all⟩
theorem HG.at {w : World} {G : GrpR} {a : World} {z : Int} (h : HG w G a) (hr : Rd w G.dA (G.deps.map (Value.int .i64))) (hl : G.deps.length ≤ 1000000000) (h1 : G.r ≤ 9223372036854775807) (hz : M5.atL G.deps G.r = z) :
    Calls Try.prog 34 #[.slice G.dA G.deps.length G.dc, .int .i64 G.r] a fun e w' => e = .returned (.int .i64 z) ∧ (w'.cell? ⟨w.heap.size, 0, none⟩ = some (.int .i64 G.t) ∧ w'.cell? ⟨w.heap.size, 1, none⟩ = some (.int .i64 G.r) ∧ w'.cell? ⟨w.heap.size, 2, none⟩ = some (.int .i64 G.n) ∧ w'.cell? ⟨w.heap.size, 3, none⟩ = some (.slice G.dA G.deps.length G.dc) ∧ w'.cell? ⟨w.heap.size, 4, none⟩ = some (.int .i64 G.ut) ∧ w'.cell? ⟨w.heap.size, 5, none⟩ = some (.int .i64 G.ur) ∧ w'.cell? ⟨w.heap.size, 6, none⟩ = some (.slice G.oA G.xs.length G.oc) ∧ HG w G w') :=
  (S5.prAt_any G.dA _ G.dc G.deps G.r a (hr.below h.2.2 (Nat.le_refl _)) rfl hl h1).mono fun e w' ⟨he, hb⟩ => ⟨by rw [he, ← hz], by rw [← hb]; exact h.all⟩

set_option maxRecDepth 100000 in
set_option maxHeartbeats 8000000 in
theorem mayBe_any (G : GrpR) (w : World) (hG : GrpAt w G) (hd : G.deps.length ≤ 1000000000) (hT : G.xs.length ≤ 200 → ∀ x ∈ G.xs, x.o.text.length ≤ 1099511627776) : Calls Try.prog 18 #[.agg G.cells.toArray] w fun e w' => e = .returned (.bool (check G.g)) ∧ Below w.heap.size w w' := by
  have HGG := Lib.hid hG
  have HTT := Lib.hid hT
  have HD := Lib.hid hG.deps
  have HDL := Lib.hid hd
  have HRR := Lib.hid hG.rR.2
  have H0 := HG.new w G
  obtain ⟨W0, hW⟩ : ∃ W0, w.alloc (.cells G.cells.toArray 27) = W0 := ⟨_, rfl⟩
  rw [hW] at H0
  have HH := Lib.hid H0
  obtain ⟨⟨d0, d1, d2, d3, d4, d5, d6⟩, hlt, hbl⟩ := H0
  have hnR := hG.nR
  obtain ⟨hn1, hn2⟩ := hnR
  have hol : G.xs.length ≤ 9223372036854775807 := Nat.le_trans hG.ocap.1 hG.ocap.2
  clear hlt hbl hG hT hd
  obtain ⟨a, ha⟩ : ∃ a, M5.right G.t G.r = a := ⟨_, rfl⟩
  have HA := Lib.hid ha
  have hgl : G.g.ops.length = G.xs.length := by show (G.xs.map OpR.o).length = _; rw [List.length_map]
  have HGL := Lib.hid hgl
  have HF : Hid (check G.g = (M5.right G.t G.r && decide (1 ≤ G.n) && decide (G.n ≤ 1099511627776) && M5.vectorL G.deps && M5.atL G.deps G.r == G.n - 1 && (if (G.ut == 0 && G.ur == 0) = true then decide (1 ≤ G.xs.length) && decide (G.xs.length ≤ 200) && opsB G.g 0 G.g.ops else M5.right G.ut G.ur && bef (G.ut, G.ur) (G.t, G.r) && decide (G.xs.length = 0)))) := by
    show _ = _
    unfold check
    rw [← hgl]
    have : decide (G.g.ops = []) = decide (G.g.ops.length = 0) := by rw [Bool.eq_iff_iff]; simp
    rw [this]
    rfl
  clear ha hgl
  go_enter Try.func18, Try.ntmps18
  go_wp2_with fail
  refine (S5.right_any _ _ _).mono ?_
  rintro e w1 ⟨rfl, hb1⟩
  rw [HA.out]
  replace HH := Lib.hid (HH.out.keep hb1)
  clear d0 d1 d2 d3 d4 d5 d6 hb1
  obtain ⟨⟨d0, d1, d2, d3, d4, d5, d6⟩, hlt, hbl⟩ := HH.out
  clear hlt hbl
  clear hW
  cases a
  · clear d0 d1 d2 d3 d4 d5 d6
    go_wp2
    go_ret
    exact ⟨by rw [HF.out, HA.out]; simp, HH.out.2.2⟩
  by_cases h1 : G.n < 1
  · have f1 : decide (G.n < 1) = true := decide_eq_true h1
    have HN : Hid (decide (1 ≤ G.n) = false) := decide_eq_false (by omega)
    go_wp2
    go_ret
    exact ⟨by rw [HF.out, HN.out]; simp, HH.out.2.2⟩
  have f1 : decide (G.n < 1) = false := decide_eq_false h1
  by_cases h2 : 1099511627776 < G.n
  · have f2 : decide (1099511627776 < G.n) = true := decide_eq_true h2
    have HN : Hid (decide (G.n ≤ 1099511627776) = false) := decide_eq_false (by omega)
    go_wp2
    go_ret
    exact ⟨by rw [HF.out, HN.out]; simp, HH.out.2.2⟩
  have f2 : decide (1099511627776 < G.n) = false := decide_eq_false h2
  have HN1 : Hid (decide (1 ≤ G.n) = true) := decide_eq_true (by omega)
  have HN2 : Hid (decide (G.n ≤ 1099511627776) = true) := decide_eq_true (by omega)
  have hwn : IntKind.i64.wrap (G.n - 1) = G.n - 1 := IntWalk.i64_in _ (by omega)
  obtain ⟨v, hv⟩ : ∃ v, M5.vectorL G.deps = v := ⟨_, rfl⟩
  have HV := Lib.hid hv
  obtain ⟨z, hz⟩ : ∃ z, M5.atL G.deps G.r = z := ⟨_, rfl⟩
  have HZ := Lib.hid hz
  clear hv hz
  cases v
  · go_wp2
    have hS := (HH.out.keep (bdrew _)).all
    clear d0 d1 d2 d3 d4 d5 d6
    refine wp_region_noPanic ?_
    refine wp_region_held_drew (S := (fun w' => w'.cell? ⟨w.heap.size, 0, none⟩ = some (.int .i64 G.t) ∧ w'.cell? ⟨w.heap.size, 1, none⟩ = some (.int .i64 G.r) ∧ w'.cell? ⟨w.heap.size, 2, none⟩ = some (.int .i64 G.n) ∧ w'.cell? ⟨w.heap.size, 3, none⟩ = some (.slice G.dA G.deps.length G.dc) ∧ w'.cell? ⟨w.heap.size, 4, none⟩ = some (.int .i64 G.ut) ∧ w'.cell? ⟨w.heap.size, 5, none⟩ = some (.int .i64 G.ur) ∧ w'.cell? ⟨w.heap.size, 6, none⟩ = some (.slice G.oA G.xs.length G.oc) ∧ HG w G w')) (by kernel_rfl) hS (fun hHeld => ?_)
    refine wpAnyH_take (i := 0) (oi := { dst := some 17, op := Op.fieldAddr 27 (Operand.tmp 1) 2, type := 0, pos := "check.go:15", after := #[], guard := none }) (v := ?v1) rfl (by kernel_rfl) (by kernel_rfl) (by kernel_rfl) (fun _ _ _ h => h) (Or.inl ⟨by rfl, ?y1⟩) hHeld ?r1
    case y1 =>
      intro wv hSw
      (try dsimp only at hSw)
      go_simp
      all_goals (with_reducible rfl)
    simp only [Act.put, List.setIfInBounds_toArray, List.set_cons_zero, List.set_cons_succ]
    refine wpAnyH_take (i := 1) (oi := { dst := some 18, op := Op.load 24 (Operand.tmp 17), type := 24, pos := "check.go:15", after := #[{ on := 0, ground := Ground.data }], guard := none }) (v := ?v2) rfl (by kernel_rfl) (by kernel_rfl) (by kernel_rfl) (fun _ _ _ h => h) (Or.inl ⟨by rfl, ?y2⟩) hHeld ?r2
    case y2 =>
      intro wv hSw
      (try dsimp only at hSw)
      go_simp
      all_goals (with_reducible rfl)
    simp only [Act.put, List.setIfInBounds_toArray, List.set_cons_zero, List.set_cons_succ]
    refine wpAnyH_ready (rs := [2]) (by kernel_rfl) (by simp) ?_
    refine AllReadyH.cons (o := { dst := some 19, op := Op.call { callee := Callee.value (Operand.func 33), args := #[Operand.tmp 18], argTypes := #[24] }, type := 4, pos := "check.go:15", after := #[{ on := 1, ground := Ground.data }], guard := none }) rfl (fun K hK => ?_) AllReadyH.nil
    go_simp
    refine (HG.vector hHeld.2.2.2.2.2.2.2 HD.out HDL.out HV.out).mono ?_
    rintro e w3 ⟨rfl, hk2⟩
    go_simp
    refine hK.out _ _ (by exact hk2) (fun hHeld => ?_)
    clear hK K
    (try simp only [Act.put, List.setIfInBounds_toArray, List.set_cons_zero, List.set_cons_succ])
    refine wpAnyH_take (i := 3) (oi := { dst := some 20, op := Op.unOp UnOp.not 4 (Operand.tmp 19), type := 4, pos := "check.go:15", after := #[{ on := 2, ground := Ground.data }], guard := none }) (v := ?v3) rfl (by kernel_rfl) (by kernel_rfl) (by kernel_rfl) (fun _ _ _ h => h) (Or.inl ⟨by rfl, ?y3⟩) hHeld ?r3
    case y3 =>
      intro wv hSw
      (try dsimp only at hSw)
      go_simp
      all_goals (with_reducible rfl)
    simp only [Act.put, List.setIfInBounds_toArray, List.set_cons_zero, List.set_cons_succ]
    refine wpAnyH_take (i := 4) (oi := { dst := some 21, op := Op.move (Operand.tmp 20), type := 4, pos := "check.go:15", after := #[{ on := 3, ground := Ground.data }, { on := 2, ground := Ground.chain }], guard := none }) (v := ?v4) rfl (by kernel_rfl) (by kernel_rfl) (by kernel_rfl) (fun _ _ _ h => h) (Or.inl ⟨by rfl, ?y4⟩) hHeld ?r4
    case y4 =>
      intro wv hSw
      (try dsimp only at hSw)
      go_simp
      all_goals (with_reducible rfl)
    simp only [Act.put, List.setIfInBounds_toArray, List.set_cons_zero, List.set_cons_succ]
    refine wpAnyH_take (i := 5) (oi := { dst := some 22, op := Op.fieldAddr 27 (Operand.tmp 1) 2, type := 0, pos := "check.go:15", after := #[{ on := 4, ground := Ground.guard }], guard := some (4, false) }) (v := undef) rfl (by kernel_rfl) (by kernel_rfl) (by kernel_rfl) (fun _ _ _ h => h) (Or.inr ⟨by rfl, rfl⟩) hHeld ?_
    simp only [Act.put, List.setIfInBounds_toArray, List.set_cons_zero, List.set_cons_succ]
    refine wpAnyH_take (i := 6) (oi := { dst := some 23, op := Op.load 24 (Operand.tmp 22), type := 24, pos := "check.go:15", after := #[{ on := 5, ground := Ground.data }, { on := 4, ground := Ground.guard }], guard := some (4, false) }) (v := undef) rfl (by kernel_rfl) (by kernel_rfl) (by kernel_rfl) (fun _ _ _ h => h) (Or.inr ⟨by rfl, rfl⟩) hHeld ?_
    simp only [Act.put, List.setIfInBounds_toArray, List.set_cons_zero, List.set_cons_succ]
    refine wpAnyH_take (i := 7) (oi := { dst := some 24, op := Op.fieldAddr 27 (Operand.tmp 1) 0, type := 0, pos := "check.go:15", after := #[{ on := 4, ground := Ground.guard }], guard := some (4, false) }) (v := undef) rfl (by kernel_rfl) (by kernel_rfl) (by kernel_rfl) (fun _ _ _ h => h) (Or.inr ⟨by rfl, rfl⟩) hHeld ?_
    simp only [Act.put, List.setIfInBounds_toArray, List.set_cons_zero, List.set_cons_succ]
    refine wpAnyH_take (i := 8) (oi := { dst := some 25, op := Op.fieldAddr 23 (Operand.tmp 24) 1, type := 0, pos := "check.go:15", after := #[{ on := 7, ground := Ground.data }, { on := 4, ground := Ground.guard }], guard := some (4, false) }) (v := undef) rfl (by kernel_rfl) (by kernel_rfl) (by kernel_rfl) (fun _ _ _ h => h) (Or.inr ⟨by rfl, rfl⟩) hHeld ?_
    simp only [Act.put, List.setIfInBounds_toArray, List.set_cons_zero, List.set_cons_succ]
    refine wpAnyH_take (i := 9) (oi := { dst := some 26, op := Op.load 3 (Operand.tmp 25), type := 3, pos := "check.go:15", after := #[{ on := 8, ground := Ground.data }, { on := 4, ground := Ground.guard }], guard := some (4, false) }) (v := undef) rfl (by kernel_rfl) (by kernel_rfl) (by kernel_rfl) (fun _ _ _ h => h) (Or.inr ⟨by rfl, rfl⟩) hHeld ?_
    simp only [Act.put, List.setIfInBounds_toArray, List.set_cons_zero, List.set_cons_succ]
    refine wpAnyH_take (i := 10) (oi := { dst := some 27, op := Op.call { callee := Callee.value (Operand.func 34), args := #[Operand.tmp 23, Operand.tmp 26], argTypes := #[24, 3] }, type := 3, pos := "check.go:15", after := #[{ on := 6, ground := Ground.data }, { on := 9, ground := Ground.data }, { on := 4, ground := Ground.chain }, { on := 4, ground := Ground.guard }], guard := some (4, false) }) (v := undef) rfl (by kernel_rfl) (by kernel_rfl) (by kernel_rfl) (fun _ _ _ h => h) (Or.inr ⟨by rfl, rfl⟩) hHeld ?_
    simp only [Act.put, List.setIfInBounds_toArray, List.set_cons_zero, List.set_cons_succ]
    refine wpAnyH_take (i := 11) (oi := { dst := some 28, op := Op.fieldAddr 27 (Operand.tmp 1) 1, type := 0, pos := "check.go:15", after := #[{ on := 4, ground := Ground.guard }], guard := some (4, false) }) (v := undef) rfl (by kernel_rfl) (by kernel_rfl) (by kernel_rfl) (fun _ _ _ h => h) (Or.inr ⟨by rfl, rfl⟩) hHeld ?_
    simp only [Act.put, List.setIfInBounds_toArray, List.set_cons_zero, List.set_cons_succ]
    refine wpAnyH_take (i := 12) (oi := { dst := some 29, op := Op.load 3 (Operand.tmp 28), type := 3, pos := "check.go:15", after := #[{ on := 11, ground := Ground.data }, { on := 4, ground := Ground.guard }], guard := some (4, false) }) (v := undef) rfl (by kernel_rfl) (by kernel_rfl) (by kernel_rfl) (fun _ _ _ h => h) (Or.inr ⟨by rfl, rfl⟩) hHeld ?_
    simp only [Act.put, List.setIfInBounds_toArray, List.set_cons_zero, List.set_cons_succ]
    refine wpAnyH_take (i := 13) (oi := { dst := some 30, op := Op.binOp BinOp.sub 3 (Operand.tmp 29) (Operand.const (Value.int IntKind.i64 1)) 3, type := 3, pos := "check.go:15", after := #[{ on := 12, ground := Ground.data }, { on := 4, ground := Ground.guard }], guard := some (4, false) }) (v := undef) rfl (by kernel_rfl) (by kernel_rfl) (by kernel_rfl) (fun _ _ _ h => h) (Or.inr ⟨by rfl, rfl⟩) hHeld ?_
    simp only [Act.put, List.setIfInBounds_toArray, List.set_cons_zero, List.set_cons_succ]
    refine wpAnyH_take (i := 14) (oi := { dst := some 31, op := Op.binOp BinOp.neq 3 (Operand.tmp 27) (Operand.tmp 30) 3, type := 4, pos := "check.go:15", after := #[{ on := 10, ground := Ground.data }, { on := 13, ground := Ground.data }, { on := 4, ground := Ground.guard }], guard := some (4, false) }) (v := undef) rfl (by kernel_rfl) (by kernel_rfl) (by kernel_rfl) (fun _ _ _ h => h) (Or.inr ⟨by rfl, rfl⟩) hHeld ?_
    simp only [Act.put, List.setIfInBounds_toArray, List.set_cons_zero, List.set_cons_succ]
    refine wpAnyH_take (i := 15) (oi := { dst := some 32, op := Op.pick (Operand.tmp 21) (Operand.const (Value.bool true)) (Operand.tmp 31), type := 4, pos := "check.go:15", after := #[{ on := 4, ground := Ground.data }, { on := 14, ground := Ground.data }], guard := none }) (v := ?v5) rfl (by kernel_rfl) (by kernel_rfl) (by kernel_rfl) (fun _ _ _ h => h) (Or.inl ⟨by rfl, ?y5⟩) hHeld ?r5
    case y5 =>
      intro wv hSw
      (try dsimp only at hSw)
      go_simp
      all_goals (with_reducible rfl)
    simp only [Act.put, List.setIfInBounds_toArray, List.set_cons_zero, List.set_cons_succ]
    refine wpAnyH_done (by kernel_rfl) ?_ _
    refine NoPanic.normal ?_
    clear hHeld
    have hbf := hk2.2.2.2.2.2.2.2
    clear hk2 hS
    go_wp2
    go_ret
    exact ⟨by rw [HF.out, HV.out]; simp, hbf.2.2⟩
  obtain ⟨c, hc⟩ : ∃ c, (z == G.n - 1) = c := ⟨_, rfl⟩
  have HC := Lib.hid hc
  cases c
  · have hc2 : (z != G.n - 1) = true := by simpa using hc
    have hc3 : ¬ z = G.n - 1 := by simpa using hc
    go_wp2
    have hS := (HH.out.keep (bdrew _)).all
    clear d0 d1 d2 d3 d4 d5 d6
    refine wp_region_noPanic ?_
    refine wp_region_held_drew (S := (fun w' => w'.cell? ⟨w.heap.size, 0, none⟩ = some (.int .i64 G.t) ∧ w'.cell? ⟨w.heap.size, 1, none⟩ = some (.int .i64 G.r) ∧ w'.cell? ⟨w.heap.size, 2, none⟩ = some (.int .i64 G.n) ∧ w'.cell? ⟨w.heap.size, 3, none⟩ = some (.slice G.dA G.deps.length G.dc) ∧ w'.cell? ⟨w.heap.size, 4, none⟩ = some (.int .i64 G.ut) ∧ w'.cell? ⟨w.heap.size, 5, none⟩ = some (.int .i64 G.ur) ∧ w'.cell? ⟨w.heap.size, 6, none⟩ = some (.slice G.oA G.xs.length G.oc) ∧ HG w G w')) (by kernel_rfl) hS (fun hHeld => ?_)
    refine wpAnyH_take (i := 0) (oi := { dst := some 17, op := Op.fieldAddr 27 (Operand.tmp 1) 2, type := 0, pos := "check.go:15", after := #[], guard := none }) (v := ?v6) rfl (by kernel_rfl) (by kernel_rfl) (by kernel_rfl) (fun _ _ _ h => h) (Or.inl ⟨by rfl, ?y6⟩) hHeld ?r6
    case y6 =>
      intro wv hSw
      (try dsimp only at hSw)
      go_simp
      all_goals (with_reducible rfl)
    simp only [Act.put, List.setIfInBounds_toArray, List.set_cons_zero, List.set_cons_succ]
    refine wpAnyH_take (i := 1) (oi := { dst := some 18, op := Op.load 24 (Operand.tmp 17), type := 24, pos := "check.go:15", after := #[{ on := 0, ground := Ground.data }], guard := none }) (v := ?v7) rfl (by kernel_rfl) (by kernel_rfl) (by kernel_rfl) (fun _ _ _ h => h) (Or.inl ⟨by rfl, ?y7⟩) hHeld ?r7
    case y7 =>
      intro wv hSw
      (try dsimp only at hSw)
      go_simp
      all_goals (with_reducible rfl)
    simp only [Act.put, List.setIfInBounds_toArray, List.set_cons_zero, List.set_cons_succ]
    refine wpAnyH_ready (rs := [2]) (by kernel_rfl) (by simp) ?_
    refine AllReadyH.cons (o := { dst := some 19, op := Op.call { callee := Callee.value (Operand.func 33), args := #[Operand.tmp 18], argTypes := #[24] }, type := 4, pos := "check.go:15", after := #[{ on := 1, ground := Ground.data }], guard := none }) rfl (fun K hK => ?_) AllReadyH.nil
    go_simp
    refine (HG.vector hHeld.2.2.2.2.2.2.2 HD.out HDL.out HV.out).mono ?_
    rintro e w3 ⟨rfl, hk2⟩
    go_simp
    refine hK.out _ _ (by exact hk2) (fun hHeld => ?_)
    clear hK K
    (try simp only [Act.put, List.setIfInBounds_toArray, List.set_cons_zero, List.set_cons_succ])
    refine wpAnyH_take (i := 3) (oi := { dst := some 20, op := Op.unOp UnOp.not 4 (Operand.tmp 19), type := 4, pos := "check.go:15", after := #[{ on := 2, ground := Ground.data }], guard := none }) (v := ?v8) rfl (by kernel_rfl) (by kernel_rfl) (by kernel_rfl) (fun _ _ _ h => h) (Or.inl ⟨by rfl, ?y8⟩) hHeld ?r8
    case y8 =>
      intro wv hSw
      (try dsimp only at hSw)
      go_simp
      all_goals (with_reducible rfl)
    simp only [Act.put, List.setIfInBounds_toArray, List.set_cons_zero, List.set_cons_succ]
    refine wpAnyH_take (i := 4) (oi := { dst := some 21, op := Op.move (Operand.tmp 20), type := 4, pos := "check.go:15", after := #[{ on := 3, ground := Ground.data }, { on := 2, ground := Ground.chain }], guard := none }) (v := ?v9) rfl (by kernel_rfl) (by kernel_rfl) (by kernel_rfl) (fun _ _ _ h => h) (Or.inl ⟨by rfl, ?y9⟩) hHeld ?r9
    case y9 =>
      intro wv hSw
      (try dsimp only at hSw)
      go_simp
      all_goals (with_reducible rfl)
    simp only [Act.put, List.setIfInBounds_toArray, List.set_cons_zero, List.set_cons_succ]
    refine wpAnyH_take (i := 5) (oi := { dst := some 22, op := Op.fieldAddr 27 (Operand.tmp 1) 2, type := 0, pos := "check.go:15", after := #[{ on := 4, ground := Ground.guard }], guard := some (4, false) }) (v := ?v10) rfl (by kernel_rfl) (by kernel_rfl) (by kernel_rfl) (fun _ _ _ h => h) (Or.inl ⟨by rfl, ?y10⟩) hHeld ?r10
    case y10 =>
      intro wv hSw
      (try dsimp only at hSw)
      go_simp
      all_goals (with_reducible rfl)
    simp only [Act.put, List.setIfInBounds_toArray, List.set_cons_zero, List.set_cons_succ]
    refine wpAnyH_take (i := 6) (oi := { dst := some 23, op := Op.load 24 (Operand.tmp 22), type := 24, pos := "check.go:15", after := #[{ on := 5, ground := Ground.data }, { on := 4, ground := Ground.guard }], guard := some (4, false) }) (v := ?v11) rfl (by kernel_rfl) (by kernel_rfl) (by kernel_rfl) (fun _ _ _ h => h) (Or.inl ⟨by rfl, ?y11⟩) hHeld ?r11
    case y11 =>
      intro wv hSw
      (try dsimp only at hSw)
      go_simp
      all_goals (with_reducible rfl)
    simp only [Act.put, List.setIfInBounds_toArray, List.set_cons_zero, List.set_cons_succ]
    refine wpAnyH_take (i := 7) (oi := { dst := some 24, op := Op.fieldAddr 27 (Operand.tmp 1) 0, type := 0, pos := "check.go:15", after := #[{ on := 4, ground := Ground.guard }], guard := some (4, false) }) (v := ?v12) rfl (by kernel_rfl) (by kernel_rfl) (by kernel_rfl) (fun _ _ _ h => h) (Or.inl ⟨by rfl, ?y12⟩) hHeld ?r12
    case y12 =>
      intro wv hSw
      (try dsimp only at hSw)
      go_simp
      all_goals (with_reducible rfl)
    simp only [Act.put, List.setIfInBounds_toArray, List.set_cons_zero, List.set_cons_succ]
    refine wpAnyH_take (i := 8) (oi := { dst := some 25, op := Op.fieldAddr 23 (Operand.tmp 24) 1, type := 0, pos := "check.go:15", after := #[{ on := 7, ground := Ground.data }, { on := 4, ground := Ground.guard }], guard := some (4, false) }) (v := ?v13) rfl (by kernel_rfl) (by kernel_rfl) (by kernel_rfl) (fun _ _ _ h => h) (Or.inl ⟨by rfl, ?y13⟩) hHeld ?r13
    case y13 =>
      intro wv hSw
      (try dsimp only at hSw)
      go_simp
      all_goals (with_reducible rfl)
    simp only [Act.put, List.setIfInBounds_toArray, List.set_cons_zero, List.set_cons_succ]
    refine wpAnyH_take (i := 9) (oi := { dst := some 26, op := Op.load 3 (Operand.tmp 25), type := 3, pos := "check.go:15", after := #[{ on := 8, ground := Ground.data }, { on := 4, ground := Ground.guard }], guard := some (4, false) }) (v := ?v14) rfl (by kernel_rfl) (by kernel_rfl) (by kernel_rfl) (fun _ _ _ h => h) (Or.inl ⟨by rfl, ?y14⟩) hHeld ?r14
    case y14 =>
      intro wv hSw
      (try dsimp only at hSw)
      go_simp
      all_goals (with_reducible rfl)
    simp only [Act.put, List.setIfInBounds_toArray, List.set_cons_zero, List.set_cons_succ]
    refine wpAnyH_take (i := 11) (oi := { dst := some 28, op := Op.fieldAddr 27 (Operand.tmp 1) 1, type := 0, pos := "check.go:15", after := #[{ on := 4, ground := Ground.guard }], guard := some (4, false) }) (v := ?v15) rfl (by kernel_rfl) (by kernel_rfl) (by kernel_rfl) (fun _ _ _ h => h) (Or.inl ⟨by rfl, ?y15⟩) hHeld ?r15
    case y15 =>
      intro wv hSw
      (try dsimp only at hSw)
      go_simp
      all_goals (with_reducible rfl)
    simp only [Act.put, List.setIfInBounds_toArray, List.set_cons_zero, List.set_cons_succ]
    refine wpAnyH_take (i := 12) (oi := { dst := some 29, op := Op.load 3 (Operand.tmp 28), type := 3, pos := "check.go:15", after := #[{ on := 11, ground := Ground.data }, { on := 4, ground := Ground.guard }], guard := some (4, false) }) (v := ?v16) rfl (by kernel_rfl) (by kernel_rfl) (by kernel_rfl) (fun _ _ _ h => h) (Or.inl ⟨by rfl, ?y16⟩) hHeld ?r16
    case y16 =>
      intro wv hSw
      (try dsimp only at hSw)
      go_simp
      all_goals (with_reducible rfl)
    simp only [Act.put, List.setIfInBounds_toArray, List.set_cons_zero, List.set_cons_succ]
    refine wpAnyH_take (i := 13) (oi := { dst := some 30, op := Op.binOp BinOp.sub 3 (Operand.tmp 29) (Operand.const (Value.int IntKind.i64 1)) 3, type := 3, pos := "check.go:15", after := #[{ on := 12, ground := Ground.data }, { on := 4, ground := Ground.guard }], guard := some (4, false) }) (v := ?v17) rfl (by kernel_rfl) (by kernel_rfl) (by kernel_rfl) (fun _ _ _ h => h) (Or.inl ⟨by rfl, ?y17⟩) hHeld ?r17
    case y17 =>
      intro wv hSw
      (try dsimp only at hSw)
      go_simp
      all_goals (with_reducible rfl)
    simp only [Act.put, List.setIfInBounds_toArray, List.set_cons_zero, List.set_cons_succ]
    refine wpAnyH_ready (rs := [10]) (by kernel_rfl) (by simp) ?_
    refine AllReadyH.cons (o := { dst := some 27, op := Op.call { callee := Callee.value (Operand.func 34), args := #[Operand.tmp 23, Operand.tmp 26], argTypes := #[24, 3] }, type := 3, pos := "check.go:15", after := #[{ on := 6, ground := Ground.data }, { on := 9, ground := Ground.data }, { on := 4, ground := Ground.chain }, { on := 4, ground := Ground.guard }], guard := some (4, false) }) rfl (fun K hK => ?_) AllReadyH.nil
    go_simp
    refine (HG.at hHeld.2.2.2.2.2.2.2 HD.out HDL.out HRR.out HZ.out).mono ?_
    rintro e w4 ⟨rfl, hk3⟩
    go_simp
    refine hK.out _ _ (by exact hk3) (fun hHeld => ?_)
    clear hK K
    (try simp only [Act.put, List.setIfInBounds_toArray, List.set_cons_zero, List.set_cons_succ])
    refine wpAnyH_take (i := 14) (oi := { dst := some 31, op := Op.binOp BinOp.neq 3 (Operand.tmp 27) (Operand.tmp 30) 3, type := 4, pos := "check.go:15", after := #[{ on := 10, ground := Ground.data }, { on := 13, ground := Ground.data }, { on := 4, ground := Ground.guard }], guard := some (4, false) }) (v := ?v18) rfl (by kernel_rfl) (by kernel_rfl) (by kernel_rfl) (fun _ _ _ h => h) (Or.inl ⟨by rfl, ?y18⟩) hHeld ?r18
    case y18 =>
      intro wv hSw
      (try dsimp only at hSw)
      go_simp
      all_goals (with_reducible rfl)
    simp only [Act.put, List.setIfInBounds_toArray, List.set_cons_zero, List.set_cons_succ]
    refine wpAnyH_take (i := 15) (oi := { dst := some 32, op := Op.pick (Operand.tmp 21) (Operand.const (Value.bool true)) (Operand.tmp 31), type := 4, pos := "check.go:15", after := #[{ on := 4, ground := Ground.data }, { on := 14, ground := Ground.data }], guard := none }) (v := ?v19) rfl (by kernel_rfl) (by kernel_rfl) (by kernel_rfl) (fun _ _ _ h => h) (Or.inl ⟨by rfl, ?y19⟩) hHeld ?r19
    case y19 =>
      intro wv hSw
      (try dsimp only at hSw)
      go_simp
      all_goals (with_reducible rfl)
    simp only [Act.put, List.setIfInBounds_toArray, List.set_cons_zero, List.set_cons_succ]
    refine wpAnyH_done (by kernel_rfl) ?_ _
    refine NoPanic.normal ?_
    clear hHeld
    have hbf := hk3.2.2.2.2.2.2.2
    clear hk2 hk3 hS
    go_wp2
    go_ret
    exact ⟨by rw [HF.out, HZ.out, HC.out]; simp, hbf.2.2⟩
  have hc2 : (z != G.n - 1) = false := by simpa using hc
  have HC3 : Hid (z = G.n - 1) := by show _ = _; simpa using hc
  have HEQ := HC3.out
  subst HEQ
  clear hc hc2
  go_wp2
  have hS := (HH.out.keep (bdrew _)).all
  clear d0 d1 d2 d3 d4 d5 d6
  refine wp_region_noPanic ?_
  refine wp_region_held_drew (S := (fun w' => w'.cell? ⟨w.heap.size, 0, none⟩ = some (.int .i64 G.t) ∧ w'.cell? ⟨w.heap.size, 1, none⟩ = some (.int .i64 G.r) ∧ w'.cell? ⟨w.heap.size, 2, none⟩ = some (.int .i64 G.n) ∧ w'.cell? ⟨w.heap.size, 3, none⟩ = some (.slice G.dA G.deps.length G.dc) ∧ w'.cell? ⟨w.heap.size, 4, none⟩ = some (.int .i64 G.ut) ∧ w'.cell? ⟨w.heap.size, 5, none⟩ = some (.int .i64 G.ur) ∧ w'.cell? ⟨w.heap.size, 6, none⟩ = some (.slice G.oA G.xs.length G.oc) ∧ HG w G w')) (by kernel_rfl) hS (fun hHeld => ?_)
  refine wpAnyH_take (i := 0) (oi := { dst := some 17, op := Op.fieldAddr 27 (Operand.tmp 1) 2, type := 0, pos := "check.go:15", after := #[], guard := none }) (v := ?v20) rfl (by kernel_rfl) (by kernel_rfl) (by kernel_rfl) (fun _ _ _ h => h) (Or.inl ⟨by rfl, ?y20⟩) hHeld ?r20
  case y20 =>
    intro wv hSw
    (try dsimp only at hSw)
    go_simp
    all_goals (with_reducible rfl)
  simp only [Act.put, List.setIfInBounds_toArray, List.set_cons_zero, List.set_cons_succ]
  refine wpAnyH_take (i := 1) (oi := { dst := some 18, op := Op.load 24 (Operand.tmp 17), type := 24, pos := "check.go:15", after := #[{ on := 0, ground := Ground.data }], guard := none }) (v := ?v21) rfl (by kernel_rfl) (by kernel_rfl) (by kernel_rfl) (fun _ _ _ h => h) (Or.inl ⟨by rfl, ?y21⟩) hHeld ?r21
  case y21 =>
    intro wv hSw
    (try dsimp only at hSw)
    go_simp
    all_goals (with_reducible rfl)
  simp only [Act.put, List.setIfInBounds_toArray, List.set_cons_zero, List.set_cons_succ]
  refine wpAnyH_ready (rs := [2]) (by kernel_rfl) (by simp) ?_
  refine AllReadyH.cons (o := { dst := some 19, op := Op.call { callee := Callee.value (Operand.func 33), args := #[Operand.tmp 18], argTypes := #[24] }, type := 4, pos := "check.go:15", after := #[{ on := 1, ground := Ground.data }], guard := none }) rfl (fun K hK => ?_) AllReadyH.nil
  go_simp
  refine (HG.vector hHeld.2.2.2.2.2.2.2 HD.out HDL.out HV.out).mono ?_
  rintro e w3 ⟨rfl, hk2⟩
  go_simp
  refine hK.out _ _ (by exact hk2) (fun hHeld => ?_)
  clear hK K
  (try simp only [Act.put, List.setIfInBounds_toArray, List.set_cons_zero, List.set_cons_succ])
  refine wpAnyH_take (i := 3) (oi := { dst := some 20, op := Op.unOp UnOp.not 4 (Operand.tmp 19), type := 4, pos := "check.go:15", after := #[{ on := 2, ground := Ground.data }], guard := none }) (v := ?v22) rfl (by kernel_rfl) (by kernel_rfl) (by kernel_rfl) (fun _ _ _ h => h) (Or.inl ⟨by rfl, ?y22⟩) hHeld ?r22
  case y22 =>
    intro wv hSw
    (try dsimp only at hSw)
    go_simp
    all_goals (with_reducible rfl)
  simp only [Act.put, List.setIfInBounds_toArray, List.set_cons_zero, List.set_cons_succ]
  refine wpAnyH_take (i := 4) (oi := { dst := some 21, op := Op.move (Operand.tmp 20), type := 4, pos := "check.go:15", after := #[{ on := 3, ground := Ground.data }, { on := 2, ground := Ground.chain }], guard := none }) (v := ?v23) rfl (by kernel_rfl) (by kernel_rfl) (by kernel_rfl) (fun _ _ _ h => h) (Or.inl ⟨by rfl, ?y23⟩) hHeld ?r23
  case y23 =>
    intro wv hSw
    (try dsimp only at hSw)
    go_simp
    all_goals (with_reducible rfl)
  simp only [Act.put, List.setIfInBounds_toArray, List.set_cons_zero, List.set_cons_succ]
  refine wpAnyH_take (i := 5) (oi := { dst := some 22, op := Op.fieldAddr 27 (Operand.tmp 1) 2, type := 0, pos := "check.go:15", after := #[{ on := 4, ground := Ground.guard }], guard := some (4, false) }) (v := ?v24) rfl (by kernel_rfl) (by kernel_rfl) (by kernel_rfl) (fun _ _ _ h => h) (Or.inl ⟨by rfl, ?y24⟩) hHeld ?r24
  case y24 =>
    intro wv hSw
    (try dsimp only at hSw)
    go_simp
    all_goals (with_reducible rfl)
  simp only [Act.put, List.setIfInBounds_toArray, List.set_cons_zero, List.set_cons_succ]
  refine wpAnyH_take (i := 6) (oi := { dst := some 23, op := Op.load 24 (Operand.tmp 22), type := 24, pos := "check.go:15", after := #[{ on := 5, ground := Ground.data }, { on := 4, ground := Ground.guard }], guard := some (4, false) }) (v := ?v25) rfl (by kernel_rfl) (by kernel_rfl) (by kernel_rfl) (fun _ _ _ h => h) (Or.inl ⟨by rfl, ?y25⟩) hHeld ?r25
  case y25 =>
    intro wv hSw
    (try dsimp only at hSw)
    go_simp
    all_goals (with_reducible rfl)
  simp only [Act.put, List.setIfInBounds_toArray, List.set_cons_zero, List.set_cons_succ]
  refine wpAnyH_take (i := 7) (oi := { dst := some 24, op := Op.fieldAddr 27 (Operand.tmp 1) 0, type := 0, pos := "check.go:15", after := #[{ on := 4, ground := Ground.guard }], guard := some (4, false) }) (v := ?v26) rfl (by kernel_rfl) (by kernel_rfl) (by kernel_rfl) (fun _ _ _ h => h) (Or.inl ⟨by rfl, ?y26⟩) hHeld ?r26
  case y26 =>
    intro wv hSw
    (try dsimp only at hSw)
    go_simp
    all_goals (with_reducible rfl)
  simp only [Act.put, List.setIfInBounds_toArray, List.set_cons_zero, List.set_cons_succ]
  refine wpAnyH_take (i := 8) (oi := { dst := some 25, op := Op.fieldAddr 23 (Operand.tmp 24) 1, type := 0, pos := "check.go:15", after := #[{ on := 7, ground := Ground.data }, { on := 4, ground := Ground.guard }], guard := some (4, false) }) (v := ?v27) rfl (by kernel_rfl) (by kernel_rfl) (by kernel_rfl) (fun _ _ _ h => h) (Or.inl ⟨by rfl, ?y27⟩) hHeld ?r27
  case y27 =>
    intro wv hSw
    (try dsimp only at hSw)
    go_simp
    all_goals (with_reducible rfl)
  simp only [Act.put, List.setIfInBounds_toArray, List.set_cons_zero, List.set_cons_succ]
  refine wpAnyH_take (i := 9) (oi := { dst := some 26, op := Op.load 3 (Operand.tmp 25), type := 3, pos := "check.go:15", after := #[{ on := 8, ground := Ground.data }, { on := 4, ground := Ground.guard }], guard := some (4, false) }) (v := ?v28) rfl (by kernel_rfl) (by kernel_rfl) (by kernel_rfl) (fun _ _ _ h => h) (Or.inl ⟨by rfl, ?y28⟩) hHeld ?r28
  case y28 =>
    intro wv hSw
    (try dsimp only at hSw)
    go_simp
    all_goals (with_reducible rfl)
  simp only [Act.put, List.setIfInBounds_toArray, List.set_cons_zero, List.set_cons_succ]
  refine wpAnyH_take (i := 11) (oi := { dst := some 28, op := Op.fieldAddr 27 (Operand.tmp 1) 1, type := 0, pos := "check.go:15", after := #[{ on := 4, ground := Ground.guard }], guard := some (4, false) }) (v := ?v29) rfl (by kernel_rfl) (by kernel_rfl) (by kernel_rfl) (fun _ _ _ h => h) (Or.inl ⟨by rfl, ?y29⟩) hHeld ?r29
  case y29 =>
    intro wv hSw
    (try dsimp only at hSw)
    go_simp
    all_goals (with_reducible rfl)
  simp only [Act.put, List.setIfInBounds_toArray, List.set_cons_zero, List.set_cons_succ]
  refine wpAnyH_take (i := 12) (oi := { dst := some 29, op := Op.load 3 (Operand.tmp 28), type := 3, pos := "check.go:15", after := #[{ on := 11, ground := Ground.data }, { on := 4, ground := Ground.guard }], guard := some (4, false) }) (v := ?v30) rfl (by kernel_rfl) (by kernel_rfl) (by kernel_rfl) (fun _ _ _ h => h) (Or.inl ⟨by rfl, ?y30⟩) hHeld ?r30
  case y30 =>
    intro wv hSw
    (try dsimp only at hSw)
    go_simp
    all_goals (with_reducible rfl)
  simp only [Act.put, List.setIfInBounds_toArray, List.set_cons_zero, List.set_cons_succ]
  refine wpAnyH_take (i := 13) (oi := { dst := some 30, op := Op.binOp BinOp.sub 3 (Operand.tmp 29) (Operand.const (Value.int IntKind.i64 1)) 3, type := 3, pos := "check.go:15", after := #[{ on := 12, ground := Ground.data }, { on := 4, ground := Ground.guard }], guard := some (4, false) }) (v := ?v31) rfl (by kernel_rfl) (by kernel_rfl) (by kernel_rfl) (fun _ _ _ h => h) (Or.inl ⟨by rfl, ?y31⟩) hHeld ?r31
  case y31 =>
    intro wv hSw
    (try dsimp only at hSw)
    go_simp
    all_goals (with_reducible rfl)
  simp only [Act.put, List.setIfInBounds_toArray, List.set_cons_zero, List.set_cons_succ]
  refine wpAnyH_ready (rs := [10]) (by kernel_rfl) (by simp) ?_
  refine AllReadyH.cons (o := { dst := some 27, op := Op.call { callee := Callee.value (Operand.func 34), args := #[Operand.tmp 23, Operand.tmp 26], argTypes := #[24, 3] }, type := 3, pos := "check.go:15", after := #[{ on := 6, ground := Ground.data }, { on := 9, ground := Ground.data }, { on := 4, ground := Ground.chain }, { on := 4, ground := Ground.guard }], guard := some (4, false) }) rfl (fun K hK => ?_) AllReadyH.nil
  go_simp
  refine (HG.at hHeld.2.2.2.2.2.2.2 HD.out HDL.out HRR.out HZ.out).mono ?_
  rintro e w4 ⟨rfl, hk3⟩
  go_simp
  refine hK.out _ _ (by exact hk3) (fun hHeld => ?_)
  clear hK K
  (try simp only [Act.put, List.setIfInBounds_toArray, List.set_cons_zero, List.set_cons_succ])
  refine wpAnyH_take (i := 14) (oi := { dst := some 31, op := Op.binOp BinOp.neq 3 (Operand.tmp 27) (Operand.tmp 30) 3, type := 4, pos := "check.go:15", after := #[{ on := 10, ground := Ground.data }, { on := 13, ground := Ground.data }, { on := 4, ground := Ground.guard }], guard := some (4, false) }) (v := ?v32) rfl (by kernel_rfl) (by kernel_rfl) (by kernel_rfl) (fun _ _ _ h => h) (Or.inl ⟨by rfl, ?y32⟩) hHeld ?r32
  case y32 =>
    intro wv hSw
    (try dsimp only at hSw)
    go_simp
    all_goals (with_reducible rfl)
  simp only [Act.put, List.setIfInBounds_toArray, List.set_cons_zero, List.set_cons_succ]
  refine wpAnyH_take (i := 15) (oi := { dst := some 32, op := Op.pick (Operand.tmp 21) (Operand.const (Value.bool true)) (Operand.tmp 31), type := 4, pos := "check.go:15", after := #[{ on := 4, ground := Ground.data }, { on := 14, ground := Ground.data }], guard := none }) (v := ?v33) rfl (by kernel_rfl) (by kernel_rfl) (by kernel_rfl) (fun _ _ _ h => h) (Or.inl ⟨by rfl, ?y33⟩) hHeld ?r33
  case y33 =>
    intro wv hSw
    (try dsimp only at hSw)
    go_simp
    all_goals (with_reducible rfl)
  simp only [Act.put, List.setIfInBounds_toArray, List.set_cons_zero, List.set_cons_succ]
  refine wpAnyH_done (by kernel_rfl) ?_ _
  refine NoPanic.normal ?_
  clear hHeld
  replace HH := Lib.hid hk3.2.2.2.2.2.2.2
  clear hk2 hk3 hS
  obtain ⟨⟨d0, d1, d2, d3, d4, d5, d6⟩, hlt, hbl⟩ := HH.out
  clear hlt hbl hwn
  by_cases hu : G.ut = 0 ∧ G.ur = 0
  · obtain ⟨hu1, hu2⟩ := hu
    rw [hu1] at d4
    rw [hu2] at d5
    have HU1 := Lib.hid hu1
    have HU2 := Lib.hid hu2
    clear hu1 hu2
    go_wp2_with fail
    show Calls Try.prog 35 #[.agg #[.int .i64 G.t, .int .i64 G.r, .int .i64 G.n, .slice G.dA G.deps.length G.dc, .int .i64 0, .int .i64 0, .slice G.oA G.xs.length G.oc]] _ _
    rw [show (Value.agg #[.int .i64 G.t, .int .i64 G.r, .int .i64 G.n, .slice G.dA G.deps.length G.dc, .int .i64 0, .int .i64 0, .slice G.oA G.xs.length G.oc]) = .agg G.cells.toArray by unfold GrpR.cells; rw [HU1.out, HU2.out]]
    refine (opsMay_any G _ ⟨HGG.out.deps.below HH.out.2.2 (Nat.le_refl _), HGG.out.ops.below HH.out.2.2 (Nat.le_refl _), fun x hx => ⟨(HGG.out.each x hx).dots.below HH.out.2.2 (Nat.le_refl _), (HGG.out.each x hx).elems.below HH.out.2.2 (Nat.le_refl _), (HGG.out.each x hx).dcap, (HGG.out.each x hx).ecap, (HGG.out.each x hx).kindR, (HGG.out.each x hx).nodeR, (HGG.out.each x hx).parentR, (HGG.out.each x hx).afterR, (HGG.out.each x hx).elemR, (HGG.out.each x hx).dotsR, (HGG.out.each x hx).elemsR, (HGG.out.each x hx).nameR, (HGG.out.each x hx).textR⟩, HGG.out.dcap, HGG.out.ocap, HGG.out.tR, HGG.out.rR, HGG.out.nR, HGG.out.utR, HGG.out.urR, HGG.out.depsR⟩ HTT.out).mono ?_
    rintro e w5 ⟨rfl, hb5⟩
    have HB5 := Lib.hid (chain HH.out.2.2 hb5)
    have HF2 : Hid (check G.g = (decide (1 ≤ G.xs.length) && decide (G.xs.length ≤ 200) && opsB G.g 0 G.g.ops)) := by
      show _ = _
      rw [HF.out, HA.out, HV.out, HZ.out, HU1.out, HU2.out, HN1.out, HN2.out]
      simp
    clear d0 d1 d2 d3 d4 d5 d6 hb5
    go_wp2
    go_ret
    exact ⟨by rw [HF2.out]; rfl, HB5.out⟩
  have HU : Hid ((G.ut == 0 && G.ur == 0) = false) := by
    show _ = _
    rw [Bool.eq_false_iff]
    simpa using hu
  obtain ⟨p, hp⟩ : ∃ p, M5.right G.ut G.ur = p := ⟨_, rfl⟩
  have HP := Lib.hid hp
  obtain ⟨s, hs⟩ : ∃ s, M5.cmpS G.ut G.ur G.t G.r = s := ⟨_, rfl⟩
  have HS := Lib.hid hs
  have hs0 : decide (s < 0) = bef (G.ut, G.ur) (G.t, G.r) := by
    rw [← hs]
    unfold bef
    rw [M5.befS_cmp]
    cases M5.befS G.ut G.ur G.t G.r
    · simp only [Bool.false_eq_true, if_false]
      split <;> rfl
    · rfl
  obtain ⟨q, hq⟩ : ∃ q, bef (G.ut, G.ur) (G.t, G.r) = q := ⟨_, rfl⟩
  rw [hq] at hs0
  have HQ := Lib.hid hq
  obtain ⟨b, hb⟩ : ∃ b, decide (G.xs.length = 0) = b := ⟨_, rfl⟩
  have HBB := Lib.hid hb
  have hb0 : ((G.xs.length : Int) == 0) = b := by rw [← hb, Bool.eq_iff_iff]; simp
  have HF2 : Hid (check G.g = (p && q && b)) := by
    show _ = _
    rw [HF.out, HA.out, HV.out, HZ.out, HU.out, HP.out, HQ.out, HBB.out, HN1.out, HN2.out]
    simp
  clear hp hs hq hb HF
  have hub : ((G.ut == (0 : Int)) = false) ∨ (G.ut = 0 ∧ (G.ur == (0 : Int)) = false) := by
    by_cases h : G.ut = 0
    · exact .inr ⟨h, by rw [beq_eq_false_iff_ne]; exact fun h2 => hu ⟨h, h2⟩⟩
    · exact .inl (by rw [beq_eq_false_iff_ne]; exact h)
  clear hu
  rcases hub with hub | ⟨hu1, hub⟩
  · go_wp2_with fail
    refine (S5.right_any _ _ _).mono ?_
    rintro e w6 ⟨rfl, hb1⟩
    rw [HP.out]
    replace HH := Lib.hid (HH.out.keep hb1)
    clear d0 d1 d2 d3 d4 d5 d6 hb1
    obtain ⟨⟨d0, d1, d2, d3, d4, d5, d6⟩, hlt, hbl⟩ := HH.out
    clear hlt hbl
    cases p
    · clear d0 d1 d2 d3 d4 d5 d6
      go_wp2
      go_ret
      exact ⟨by rw [HF2.out]; rfl, HH.out.2.2⟩
    go_wp2_with fail
    refine (S5.cmp_any _ _ _ _ _).mono ?_
    rintro e w7 ⟨rfl, hb1⟩
    rw [HS.out]
    replace HH := Lib.hid (HH.out.keep hb1)
    clear d0 d1 d2 d3 d4 d5 d6 hb1
    obtain ⟨⟨d0, d1, d2, d3, d4, d5, d6⟩, hlt, hbl⟩ := HH.out
    clear hlt hbl
    cases q
    · clear d0 d1 d2 d3 d4 d5 d6
      go_wp2
      go_ret
      exact ⟨by rw [HF2.out]; rfl, HH.out.2.2⟩
    cases b
    · have hl : 0 < G.xs.length := by
        have := HBB.out
        have := of_decide_eq_false this
        omega
      go_wp2
      go_ret
      exact ⟨by rw [HF2.out]; rfl, HH.out.2.2⟩
    · have hl : G.xs.length = 0 := of_decide_eq_true HBB.out
      go_wp2
      go_ret
      exact ⟨by rw [HF2.out]; rfl, HH.out.2.2⟩
  · rw [hu1] at d4
    have HU1 := Lib.hid hu1
    clear hu1
    go_wp2_with fail
    refine (S5.right_any _ _ _).mono ?_
    rintro e w6 ⟨rfl, hb1⟩
    rw [show M5.right 0 G.ur = p by rw [← HP.out, HU1.out]]
    replace HH := Lib.hid (HH.out.keep hb1)
    clear d0 d1 d2 d3 d4 d5 d6 hb1
    obtain ⟨⟨d0, d1, d2, d3, d4, d5, d6⟩, hlt, hbl⟩ := HH.out
    clear hlt hbl
    cases p
    · clear d0 d1 d2 d3 d4 d5 d6
      go_wp2
      go_ret
      exact ⟨by rw [HF2.out]; rfl, HH.out.2.2⟩
    rw [HU1.out] at d4
    go_wp2_with fail
    refine (S5.cmp_any _ _ _ _ _).mono ?_
    rintro e w7 ⟨rfl, hb1⟩
    rw [show M5.cmpS 0 G.ur G.t G.r = s by rw [← HS.out, HU1.out]]
    replace HH := Lib.hid (HH.out.keep hb1)
    clear d0 d1 d2 d3 d4 d5 d6 hb1
    obtain ⟨⟨d0, d1, d2, d3, d4, d5, d6⟩, hlt, hbl⟩ := HH.out
    clear hlt hbl
    cases q
    · clear d0 d1 d2 d3 d4 d5 d6
      go_wp2
      go_ret
      exact ⟨by rw [HF2.out]; rfl, HH.out.2.2⟩
    cases b
    · have hl : 0 < G.xs.length := by
        have := HBB.out
        have := of_decide_eq_false this
        omega
      go_wp2
      go_ret
      exact ⟨by rw [HF2.out]; rfl, HH.out.2.2⟩
    · have hl : G.xs.length = 0 := of_decide_eq_true HBB.out
      go_wp2
      go_ret
      exact ⟨by rw [HF2.out]; rfl, HH.out.2.2⟩

set_option maxRecDepth 100000 in
set_option maxHeartbeats 1000000 in
theorem check_any (G : GrpR) (w : World) (hG : GrpAt w G) (hd : G.deps.length ≤ 1000000000) (hT : G.xs.length ≤ 200 → ∀ x ∈ G.xs, x.o.text.length ≤ 1099511627776) : Calls Try.prog 11 #[.agg G.cells.toArray] w fun e w' => e = .returned (.int .i64 (if check G.g = true then 0 else 80)) ∧ Below w.heap.size w w' := by
  have H0 := HG.new w G
  obtain ⟨W0, hW⟩ : ∃ W0, w.alloc (.cells G.cells.toArray 27) = W0 := ⟨_, rfl⟩
  have hG1 := Lib.hid (hG.keep (below_box (.cells G.cells.toArray 27)))
  rw [hW] at H0 hG1
  have HH := Lib.hid H0
  obtain ⟨⟨d0, d1, d2, d3, d4, d5, d6⟩, hlt, hbl⟩ := H0
  have HC : Hid (∀ w, GrpAt w G → Calls Try.prog 18 #[.agg #[.int .i64 G.t, .int .i64 G.r, .int .i64 G.n, .slice G.dA G.deps.length G.dc, .int .i64 G.ut, .int .i64 G.ur, .slice G.oA G.xs.length G.oc]] w fun e w' => e = .returned (.bool (check G.g)) ∧ Below w.heap.size w w') := fun w h => mayBe_any G w h hd hT
  obtain ⟨c, hc⟩ : ∃ c, check G.g = c := ⟨_, rfl⟩
  rw [hc] at HC ⊢
  clear hlt hbl hG hd hT hc
  go_enter Try.func11, Try.ntmps11
  go_wp2_with fail
  refine (HC.out _ hG1.out).mono ?_
  rintro e w1 ⟨rfl, hb1⟩
  have HB := Lib.hid (chain HH.out.2.2 hb1)
  clear d0 d1 d2 d3 d4 d5 d6 hb1 hW
  cases c
  · go_wp2
    go_ret
    exact ⟨rfl, HB.out⟩
  · go_wp2
    go_ret
    exact ⟨rfl, HB.out⟩

end Go.Proofs.Ytphnimmhjnhajaa.W8

