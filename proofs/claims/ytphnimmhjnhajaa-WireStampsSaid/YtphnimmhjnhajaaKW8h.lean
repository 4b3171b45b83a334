/-
  Layer 8, walks: groups compared, the loop.
-/
import Derived.Test.YtphnimmhjnhajaaKW8g
import Derived.Deep.RegionHeld3
import Derived.Deep.MidRow
namespace Go.Proofs.Ytphnimmhjnhajaa.W8
open Go.RowKit Go.PlainAid M8
set_option linter.unusedVariables false

/-- What is held in the round's region. -/
def Sx (wr : World) (g q q' p p' : Nat) (x y : OpR) (G H : GrpR) (off off' : Nat) (w' : World) : Prop :=
  w'.cell? ⟨g, 6, none⟩ = some (.slice (some ⟨q, off, none⟩) G.xs.length G.oc) ∧ w'.cell? ⟨g + 1, 6, none⟩ = some (.slice (some ⟨q', off', none⟩) H.xs.length H.oc) ∧ w'.rangeAt q p x.cells ∧ w'.rangeAt q' p' y.cells ∧ Below wr.heap.size wr w'
theorem Sx.keep {wr : World} {g q q' p p' : Nat} {x y : OpR} {G H : GrpR} {off off' : Nat} {w1 w2 : World} (h : Sx wr g q q' p p' x y G H off off' w1) (hb : Below w1.heap.size w1 w2) (hg : g + 1 < wr.heap.size) (hq : q < wr.heap.size) (hq' : q' < wr.heap.size) : Sx wr g q q' p p' x y G H off off' w2 := by
  obtain ⟨h1, h2, h3, h4, h5⟩ := h
  have hz := h5.size
  exact ⟨bcell hb (by omega) h1, bcell hb (by omega) h2, fun j v hj => bcell hb (by omega) (h3 j v hj), fun j v hj => bcell hb (by omega) (h4 j v hj), chain h5 hb⟩
theorem below_drew1 (w : World) : Below w.heap.size w w.drew := below_drewN (Below.refl _ _) 1

set_option maxRecDepth 100000 in
set_option maxHeartbeats 1000000 in
theorem sameG_rest (G H : GrpR) (w : World) (hG : GrpAt w G) (hH : GrpAt w H) (h0 : G.t = H.t) (h1 : G.r = H.r) (h2 : G.n = H.n) (h3 : G.deps = H.deps) (h4 : G.ut = H.ut) (h5 : G.ur = H.ur) (h6 : G.xs.length = H.xs.length) : Calls Try.prog 10 #[G.val, H.val] w (SameE (G.g = H.g) w) := by
  show Calls Try.prog 10 #[.agg G.cells.toArray, .agg H.cells.toArray] w _
  have T2 := two_grps w G H
  obtain ⟨hB0, hg, hh⟩ := T2
  have B0 := Lib.hid hB0
  have GC := Lib.hid hg
  have HC := Lib.hid hh
  obtain ⟨d0, d1, d2, d3, d4, d5, d6⟩ := hg
  obtain ⟨c0, c1, c2, c3, c4, c5, c6⟩ := hh
  have DG := Lib.hid (hG.deps.keep hB0)
  have DH := Lib.hid (hH.deps.keep hB0)
  have hl1 := Nat.le_trans hG.dcap.1 hG.dcap.2
  have hl2 := Nat.le_trans hH.dcap.1 hH.dcap.2
  have hiff : G.g = H.g ↔ G.xs.map OpR.o = H.xs.map OpR.o := by rw [grp_eq]; exact ⟨fun h => h.2, fun h => ⟨⟨h0, h1, h2, h3, h4, h5⟩, h⟩⟩
  have HI := Lib.hid hiff
  have OG := Lib.hid (hG.keep hB0)
  have OH := Lib.hid (hH.keep hB0)
  rw [h0] at d0
  rw [h1] at d1
  rw [h2] at d2
  clear d4 c4 d5 c5 d6 c6
  have H3 := Lib.hid h3
  have H4 := Lib.hid h4
  have H5 := Lib.hid h5
  have H6 := Lib.hid h6
  have hm1 := Nat.le_trans hG.ocap.1 hG.ocap.2
  have hm2 := Nat.le_trans hH.ocap.1 hH.ocap.2
  clear hB0 hG hH h0 h1 h2 h3 h4 h5 h6 hiff
  go_enter Try.func10, Try.ntmps10
  go_wp2_with fail
  refine (sameInts_e _ _ _ _ _ _ G.deps H.deps _ DG.out DH.out rfl rfl hl1 hl2).mono ?_
  rintro e w1 ⟨b1, rfl, hb1, hbw1⟩
  have B1 := Lib.hid (chain B0.out hbw1)
  have GC1 := Lib.hid (GC.out.keep hbw1 (by simp only [World.size_alloc]; omega))
  have HC1 := Lib.hid (HC.out.keep hbw1 (by simp only [World.size_alloc]; omega))
  have OG1 := Lib.hid (OG.out.keep hbw1)
  have OH1 := Lib.hid (OH.out.keep hbw1)
  have hsz : w.heap.size + 2 ≤ w1.heap.size := by have := hbw1.size; simp only [World.size_alloc] at this; omega
  clear d0 d1 d2 d3 c0 c1 c2 c3 B0 GC HC OG OH DG DH
  have hb2 : b1 = true := hb1.2 H3.out
  subst hb2
  clear hb1 hbw1
  obtain ⟨d0, d1, d2, d3, d4, d5, d6⟩ := GC1.out
  obtain ⟨c0, c1, c2, c3, c4, c5, c6⟩ := HC1.out
  rw [H4.out] at d4
  rw [H5.out] at d5
  have hq : ((G.xs.length : Int) != (H.xs.length : Int)) = false := by rw [H6.out]; simp
  clear d0 d1 d2 d3 c0 c1 c2 c3
  go_wp2
  clear hq d4 d5 d6 c4 c5 c6
  go_loopw [5] (fun v wr => ∃ k : Nat, k ≤ G.xs.length ∧ v = .int .i64 (k : Int) ∧ (∀ j (hj : j < G.xs.length) (hj' : j < H.xs.length), j < k → G.xs[j].o = H.xs[j].o) ∧ Below w1.heap.size w1 wr) (fun v _ => G.xs.length - (intOf v).toNat)
  case atStart => exact ⟨0, by omega, rfl, fun j _ _ hj => absurd hj (by omega), Below.refl _ _⟩
  case round =>
    obtain ⟨k, hk, rfl, hs, hb⟩ := hrel
    obtain ⟨d0, d1, d2, d3, d4, d5, d6⟩ := GC1.out.keep hb (by omega)
    obtain ⟨c0, c1, c2, c3, c4, c5, c6⟩ := HC1.out.keep hb (by omega)
    clear d0 d1 d2 d3 d4 d5 c0 c1 c2 c3 c4 c5
    by_cases hlt : k < G.xs.length
    · have hlt' : k < H.xs.length := by rw [← H6.out]; exact hlt
      obtain ⟨q, off, hA, hbl, hcl⟩ := op_cells (OG1.out.ops.keep hb) hlt
      obtain ⟨q', off', hA', hbl', hcl'⟩ := op_cells (OH1.out.ops.keep hb) hlt'
      have hx := (OG1.out.each _ (List.getElem_mem hlt)).keep hb
      have hy := (OH1.out.each _ (List.getElem_mem hlt')).keep hb
      have HS := Lib.hid hs
      rw [hA] at d6
      rw [hA'] at c6
      clear hs hA hA'
      obtain ⟨x, hxx⟩ : ∃ x, G.xs[k] = x := ⟨_, rfl⟩
      obtain ⟨y, hyy⟩ : ∃ y, H.xs[k] = y := ⟨_, rfl⟩
      have HX := Lib.hid hxx
      have HY := Lib.hid hyy
      rw [hxx] at hcl hx
      rw [hyy] at hcl' hy
      clear hxx hyy
      have hra := range_op hcl
      have hra' := range_op hcl'
      have HOX := Lib.hid hx
      have HOY := Lib.hid hy
      have HBW := Lib.hid hb
      clear hcl hcl' hx hy hb
      have hk0 : (0 : Int) ≤ (k : Int) := by omega
      have hk1 : (k : Int) < (G.xs.length : Int) := by omega
      have hk2 : (k : Int) < (H.xs.length : Int) := by omega
      go_wp2_with fail
      refine wp_region_held_drew (S := Sx wr (w.heap.size) q q' (off + k * 18) (off' + k * 18) x y G H off off') (by kernel_rfl) ⟨d6, c6, hra, hra', below_drew1 wr⟩ (fun hHeld => ?_)
      clear d6 c6 hra hra'
      refine wpAnyH_take (i := 0) (oi := { dst := some 49, op := Op.fieldAddr 27 (Operand.tmp 2) 4, type := 0, pos := "ref.go:269", after := #[], guard := none }) (v := ?v0) rfl (by kernel_rfl) (by kernel_rfl) (by kernel_rfl) (fun _ _ _ h => h) (Or.inl ⟨by rfl, ?y0⟩) hHeld ?r0
      case y0 =>
        intro wv hSw
        obtain ⟨s1, s2, s3, s4, s5⟩ := hSw
        clear s3 s4 s5
        go_simp
        all_goals (with_reducible rfl)
      simp only [Act.put, List.setIfInBounds_toArray, List.set_cons_zero, List.set_cons_succ]
      refine wpAnyH_take (i := 1) (oi := { dst := some 50, op := Op.load 25 (Operand.tmp 49), type := 25, pos := "ref.go:269", after := #[{ on := 0, ground := Ground.data }], guard := none }) (v := ?v1) rfl (by kernel_rfl) (by kernel_rfl) (by kernel_rfl) (fun _ _ _ h => h) (Or.inl ⟨by rfl, ?y1⟩) hHeld ?r1
      case y1 =>
        intro wv hSw
        obtain ⟨s1, s2, s3, s4, s5⟩ := hSw
        clear s3 s4 s5
        go_simp
        all_goals (with_reducible rfl)
      simp only [Act.put, List.setIfInBounds_toArray, List.set_cons_zero, List.set_cons_succ]
      refine wpAnyH_take (i := 2) (oi := { dst := some 51, op := Op.move (Operand.tmp 5), type := 3, pos := "ref.go:269", after := #[], guard := none }) (v := ?v2) rfl (by kernel_rfl) (by kernel_rfl) (by kernel_rfl) (fun _ _ _ h => h) (Or.inl ⟨by rfl, ?y2⟩) hHeld ?r2
      case y2 =>
        intro wv hSw
        obtain ⟨s1, s2, s3, s4, s5⟩ := hSw
        clear s3 s4 s5
        go_simp
        all_goals (with_reducible rfl)
      simp only [Act.put, List.setIfInBounds_toArray, List.set_cons_zero, List.set_cons_succ]
      refine wpAnyH_take (i := 3) (oi := { dst := some 52, op := Op.indexAddr 25 (Operand.tmp 50) (Operand.tmp 51), type := 0, pos := "ref.go:269", after := #[{ on := 1, ground := Ground.data }, { on := 2, ground := Ground.data }], guard := none }) (v := ?v3) rfl (by kernel_rfl) (by kernel_rfl) (by kernel_rfl) (fun _ _ _ h => h) (Or.inl ⟨by rfl, ?y3⟩) hHeld ?r3
      case y3 =>
        intro wv hSw
        obtain ⟨s1, s2, s3, s4, s5⟩ := hSw
        clear s3 s4 s5
        go_simp
        all_goals (with_reducible rfl)
      simp only [Act.put, List.setIfInBounds_toArray, List.set_cons_zero, List.set_cons_succ]
      refine wpAnyH_take (i := 4) (oi := { dst := some 53, op := Op.load 44 (Operand.tmp 52), type := 44, pos := "ref.go:269", after := #[{ on := 3, ground := Ground.data }], guard := none }) (v := _) rfl (by kernel_rfl) (by kernel_rfl) (by kernel_rfl) (fun _ _ _ h => h) (yieldsIf_load_mid (by rfl) _ _ rfl _ _ rfl x.cells _ (fun _ h => h.2.2.1) Try.underlying44 rfl (zero_of_info info_op).2) hHeld ?_
      simp only [Act.put, List.setIfInBounds_toArray, List.set_cons_zero, List.set_cons_succ]
      refine wpAnyH_take (i := 5) (oi := { dst := some 54, op := Op.fieldAddr 27 (Operand.tmp 3) 4, type := 0, pos := "ref.go:269", after := #[], guard := none }) (v := ?v5) rfl (by kernel_rfl) (by kernel_rfl) (by kernel_rfl) (fun _ _ _ h => h) (Or.inl ⟨by rfl, ?y5⟩) hHeld ?r5
      case y5 =>
        intro wv hSw
        obtain ⟨s1, s2, s3, s4, s5⟩ := hSw
        clear s3 s4 s5
        go_simp
        all_goals (with_reducible rfl)
      simp only [Act.put, List.setIfInBounds_toArray, List.set_cons_zero, List.set_cons_succ]
      refine wpAnyH_take (i := 6) (oi := { dst := some 55, op := Op.load 25 (Operand.tmp 54), type := 25, pos := "ref.go:269", after := #[{ on := 5, ground := Ground.data }], guard := none }) (v := ?v6) rfl (by kernel_rfl) (by kernel_rfl) (by kernel_rfl) (fun _ _ _ h => h) (Or.inl ⟨by rfl, ?y6⟩) hHeld ?r6
      case y6 =>
        intro wv hSw
        obtain ⟨s1, s2, s3, s4, s5⟩ := hSw
        clear s3 s4 s5
        go_simp
        all_goals (with_reducible rfl)
      simp only [Act.put, List.setIfInBounds_toArray, List.set_cons_zero, List.set_cons_succ]
      refine wpAnyH_take (i := 7) (oi := { dst := some 56, op := Op.move (Operand.tmp 5), type := 3, pos := "ref.go:269", after := #[], guard := none }) (v := ?v7) rfl (by kernel_rfl) (by kernel_rfl) (by kernel_rfl) (fun _ _ _ h => h) (Or.inl ⟨by rfl, ?y7⟩) hHeld ?r7
      case y7 =>
        intro wv hSw
        obtain ⟨s1, s2, s3, s4, s5⟩ := hSw
        clear s3 s4 s5
        go_simp
        all_goals (with_reducible rfl)
      simp only [Act.put, List.setIfInBounds_toArray, List.set_cons_zero, List.set_cons_succ]
      refine wpAnyH_take (i := 8) (oi := { dst := some 57, op := Op.indexAddr 25 (Operand.tmp 55) (Operand.tmp 56), type := 0, pos := "ref.go:269", after := #[{ on := 6, ground := Ground.data }, { on := 7, ground := Ground.data }], guard := none }) (v := ?v8) rfl (by kernel_rfl) (by kernel_rfl) (by kernel_rfl) (fun _ _ _ h => h) (Or.inl ⟨by rfl, ?y8⟩) hHeld ?r8
      case y8 =>
        intro wv hSw
        obtain ⟨s1, s2, s3, s4, s5⟩ := hSw
        clear s3 s4 s5
        go_simp
        all_goals (with_reducible rfl)
      simp only [Act.put, List.setIfInBounds_toArray, List.set_cons_zero, List.set_cons_succ]
      refine wpAnyH_take (i := 9) (oi := { dst := some 58, op := Op.load 44 (Operand.tmp 57), type := 44, pos := "ref.go:269", after := #[{ on := 8, ground := Ground.data }], guard := none }) (v := _) rfl (by kernel_rfl) (by kernel_rfl) (by kernel_rfl) (fun _ _ _ h => h) (yieldsIf_load_mid (by rfl) _ _ rfl _ _ rfl y.cells _ (fun _ h => h.2.2.2.1) Try.underlying44 rfl (zero_of_info info_op).2) hHeld ?_
      simp only [Act.put, List.setIfInBounds_toArray, List.set_cons_zero, List.set_cons_succ]
      refine wpAnyH_ready (rs := [10]) (by kernel_rfl) (by simp) ?_
      refine AllReadyH.cons (o := { dst := some 59, op := Op.call { callee := Callee.value (Operand.func 17), args := #[Operand.tmp 53, Operand.tmp 58], argTypes := #[44, 44] }, type := 4, pos := "ref.go:269", after := #[{ on := 4, ground := Ground.data }, { on := 9, ground := Ground.data }], guard := none }) rfl (fun K hK => ?_) AllReadyH.nil
      go_simp
      refine (sameOp_any x y _ (HOX.out.keep (below_drew1 _)) (HOY.out.keep (below_drew1 _))).mono ?_
      rintro e w3 ⟨b, rfl, hbq, hbw3⟩
      have HB3 := Lib.hid hbq
      have HW3 := Lib.hid (Below.trans HBW.out ((chain (below_drew1 wr) hbw3).mono HBW.out.size))
      have hS3 := hHeld.keep (by exact hbw3) (by have := HBW.out.size; exact (show w.heap.size + 1 < wr.heap.size by omega)) hbl hbl'
      clear hbq hbw3
      go_simp
      refine hK.out _ _ (by exact hS3) (fun hHeld2 => ?_)
      clear hK K hHeld
      (try simp only [Act.put, List.setIfInBounds_toArray, List.set_cons_zero, List.set_cons_succ])
      refine wpAnyH_take (i := 11) (oi := { dst := some 60, op := Op.unOp UnOp.not 4 (Operand.tmp 59), type := 4, pos := "ref.go:269", after := #[{ on := 10, ground := Ground.data }], guard := none }) (v := ?v11) rfl (by kernel_rfl) (by kernel_rfl) (by kernel_rfl) (fun _ _ _ h => h) (Or.inl ⟨by rfl, ?y11⟩) hHeld2 ?r11
      case y11 =>
        intro wv hSw
        clear hSw
        go_simp
        all_goals (with_reducible rfl)
      simp only [Act.put, List.setIfInBounds_toArray, List.set_cons_zero, List.set_cons_succ]
      refine wpAnyH_done (by kernel_rfl) ?_ _
      clear hHeld2 hS3
      cases b
      · go_wp2
        go_ret
        refine ⟨false, rfl, ⟨(fun h => nomatch h), fun h => ?_⟩, chain B1.out HW3.out⟩
        have h1 := HI.out.1 h
        have h2 : x.o = y.o := by
          rw [← HX.out, ← HY.out]
          have h3 := congrArg (fun l => l[k]?) h1
          simpa [List.getElem?_map, hlt, hlt'] using h3
        exact HB3.out.2 h2
      · go_wp2
        have hs2 : ∀ j (hj : j < G.xs.length) (hj' : j < H.xs.length), j < k + 1 → G.xs[j].o = H.xs[j].o := fun j hj hj' h => by
          by_cases h2 : j < k
          · exact HS.out j hj hj' h2
          · obtain rfl : j = k := by omega
            rw [HX.out, HY.out]
            exact HB3.out.1 (by trivial)
        go_roundw
        case rel => exact ⟨k + 1, by omega, by go_num, hs2, HW3.out⟩
        case measure => simp [intOf]; omega
    · have hkk : k = G.xs.length := by omega
      have hall : G.xs.map OpR.o = H.xs.map OpR.o := by
        refine List.ext_getElem (by simp [H6.out]) fun j h1 h2 => ?_
        rw [List.getElem_map, List.getElem_map]
        rw [List.length_map] at h1 h2
        exact hs j h1 h2 (by omega)
      go_wp2
      go_ret
      exact ⟨true, rfl, ⟨fun _ => HI.out.2 hall, fun _ => rfl⟩, chain B1.out hb⟩

theorem sameG_any (G H : GrpR) (w : World) (hG : GrpAt w G) (hH : GrpAt w H) : Calls Try.prog 10 #[G.val, H.val] w (SameE (G.g = H.g) w) := by
  by_cases n0 : G.t ≠ H.t
  · exact sameG_no0 G H w hG hH n0
  have h0 := Decidable.not_not.1 n0
  by_cases n1 : G.r ≠ H.r
  · exact sameG_no1 G H w hG hH h0 n1
  have h1 := Decidable.not_not.1 n1
  by_cases n2 : G.n ≠ H.n
  · exact sameG_no2 G H w hG hH h0 h1 n2
  have h2 := Decidable.not_not.1 n2
  by_cases n3 : G.deps ≠ H.deps
  · exact sameG_no3 G H w hG hH h0 h1 h2 n3
  have h3 := Decidable.not_not.1 n3
  by_cases n4 : G.ut ≠ H.ut
  · exact sameG_no4 G H w hG hH h0 h1 h2 h3 n4
  have h4 := Decidable.not_not.1 n4
  by_cases n5 : G.ur ≠ H.ur
  · exact sameG_no5 G H w hG hH h0 h1 h2 h3 h4 n5
  have h5 := Decidable.not_not.1 n5
  by_cases n6 : G.xs.length ≠ H.xs.length
  · exact sameG_no6 G H w hG hH h0 h1 h2 h3 h4 h5 n6
  exact sameG_rest G H w hG hH h0 h1 h2 h3 h4 h5 (Decidable.not_not.1 n6)

end Go.Proofs.Ytphnimmhjnhajaa.W8

