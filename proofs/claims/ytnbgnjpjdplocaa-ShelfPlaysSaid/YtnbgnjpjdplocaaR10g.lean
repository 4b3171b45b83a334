/-
  Layer 10: ShelfMany.
-/
import Derived.Test.YtnbgnjpjdplocaaR10f
namespace Go.Proofs.Ytnbgnjpjdplocaa.Q10
open Go.RowKit Go.PlainAid
set_option linter.unusedVariables false
set_option linter.unusedSimpArgs false

def par2 (z : Int) : Bool := decide (bits .and .u16 z 2 = 0)
theorem lim (len K : Nat) : ∃ N, N ≤ len ∧ N ≤ K ∧ (∀ i, i ≤ N → ¬ (i < len ∧ i < K) → i = N) ∧ (∀ i, i ≤ N → i < len → i < K → i < N) := by
  by_cases h : len < K
  · exact ⟨len, by omega, by omega, fun i _ _ => by omega, fun i _ _ _ => by omega⟩
  · exact ⟨K, by omega, by omega, fun i _ _ => by omega, fun i _ _ _ => by omega⟩
theorem u16_at {w : World} {a : Option Addr} {zs : List Int} (h : Rd w a (zs.map (Value.int .u16))) (hwf : ∀ z ∈ zs, (Lit.int .u16 z).wf = true) {k : Nat} (hk : k < zs.length) :
    ∃ g off z, a = some ⟨g, off, none⟩ ∧ g < w.heap.size ∧ w.cell? ⟨g, off + k, none⟩ = some (.int .u16 z) ∧ z = zs.getD k 0 ∧ 0 ≤ z ∧ z ≤ 65535 := by
  obtain ⟨g, off, e, hg, hc⟩ := h.get (k := k) (by simpa using hk)
  rw [List.getElem_map] at hc
  have hwz := hwf _ (List.getElem_mem hk)
  have hz0 : 0 ≤ zs[k] ∧ zs[k] ≤ 65535 := by simpa [Lit.wf, IntKind.min, IntKind.max, IntKind.signed, IntKind.bits] using hwz
  exact ⟨g, off, zs[k], e, hg, hc, by simp [List.getD, hk], hz0.1, hz0.2⟩

set_option maxRecDepth 100000 in
set_option maxHeartbeats 4000000 in
theorem lawMany (w : World) (a : Option Addr) (len cap : Nat) (ys : List Int) (hrow : IsRow .u16 w a len cap ys) (hsz : cap * 2 ≤ 140737488351232)
    (b : Option Addr) (len2 cap2 : Nat) (ys2 : List Int) (hrow2 : IsRow .u16 w b len2 cap2 ys2) (hsz2 : cap2 * 2 ≤ 140737488351232) :
    Calls Try.prog 4 #[.slice a len cap, .slice b len2 cap2] w fun e w' => e = .returned (.bool true) ∧ Below w.heap.size w w' := by
  obtain ⟨hr, hzl, hwf⟩ := Rd.of_row hrow
  obtain ⟨hr2, hzl2, hwf2⟩ := Rd.of_row hrow2
  obtain ⟨zs, hzs⟩ : ∃ zs, zs = ys.take len := ⟨_, rfl⟩
  obtain ⟨zs2, hzs2⟩ : ∃ zs2, zs2 = ys2.take len2 := ⟨_, rfl⟩
  rw [← hzs] at hr hzl hwf
  rw [← hzs2] at hr2 hzl2 hwf2
  have hlen : len ≤ 140737488351232 := by
    rcases hrow with ⟨rfl, rfl, rfl, rfl⟩ | ⟨x, rfl, hl, _⟩ <;> omega
  have hlen2 : len2 ≤ 140737488351232 := by
    rcases hrow2 with ⟨rfl, rfl, rfl, rfl⟩ | ⟨x, rfl, hl, _⟩ <;> omega
  have HR := Lib.hid hr
  have HW := Lib.hid hwf
  have HR2 := Lib.hid hr2
  have HW2 := Lib.hid hwf2
  clear hr hrow hzs hwf hsz hr2 hrow2 hzs2 hwf2 hsz2
  obtain ⟨N, hN1, hN2, hN3, hN4⟩ := lim len 400
  obtain ⟨M, hM1, hM2, hM3, hM4⟩ := lim len2 100
  have HN3 := Lib.hid hN3
  have HN4 := Lib.hid hN4
  have HM3 := Lib.hid hM3
  have HM4 := Lib.hid hM4
  clear hN3 hN4 hM3 hM4
  go_enter Try.func4, Try.ntmps4
  go_wp2_with fail
  refine (awake_any w).mono ?_
  rintro e w1 ⟨rfl, hb1⟩
  have HB1 := Lib.hid hb1
  clear hb1
  go_wp2_with fail
  refine (new_own w1).mono ?_
  rintro e w2 ⟨S0, rfl, hO⟩
  have F0 := Lib.hid (JO.new hO HB1.out)
  obtain ⟨s, hs0⟩ : ∃ s, S0.s = s := ⟨_, rfl⟩
  obtain ⟨r, hr0⟩ : ∃ r, w2.heap.size = r := ⟨_, rfl⟩
  rw [hs0, hr0] at F0
  rw [hs0]
  clear hO hs0
  go_wp2_with fail
  go_loopw [8] (fun ix wr => ∃ k : Nat, k ≤ N ∧ ix = .int .i64 (k : Int) ∧ Hid (JO s r w (Lf zs k) (Lf zs k) wr)) (fun i _ => N - (intOf i).toNat)
  case atStart => exact ⟨0, by omega, rfl, F0⟩
  case round =>
    clear F0 hr0
    obtain ⟨k, hk, rfl, F1⟩ := hrel
    by_cases hlt : k < len ∧ k < 400
    · obtain ⟨hlt1, hlt2⟩ := hlt
      have hkN := HN4.out k hk hlt1 hlt2
      have hlz1 : (k : Int) < (len : Int) := by omega
      have hlz2 : (k : Int) < 400 := by omega
      obtain ⟨g, off, z, rfl, hg, hc, hz, hz1, hz2⟩ := u16_at HR.out HW.out (k := k) (by omega)
      have c0 := (F1.out.below.cell (p := ⟨g, off + k, none⟩) hg).trans hc
      obtain ⟨A5, c5, c1⟩ := F1.out.facts
      have hlf := Lf_len zs k
      rw [hlf] at c1
      have hlp := Lf_put zs k
      rw [← hz] at hlp
      have hrm := @rem_in z k
      have HLP := Lib.hid (And.intro hlp hrm)
      have HC := Lib.hid (And.intro hg hc)
      have HLF := Lib.hid hlf
      have hn1 : ¬ ((k : Int) + 1 = 0) := by omega
      have hw1 : IntKind.i64.wrap z = z := by rw [IntKind.wrap_i64]; omega
      have hw2 : IntKind.i64.wrap ((k : Int) + 1) = (k : Int) + 1 := by rw [IntKind.wrap_i64]; omega
      have hw3 : z.tmod ((k : Int) + 1) = z % ((k : Int) + 1) := Int.tmod_eq_emod_of_nonneg hz1
      clear hlp hrm hg hc hlf hz
      go_wp2
      go_quiet (fail)
      have F2 : Hid (JO s r w (Lf zs k) (Lf zs k) (wr.drewN nq)) := F1.out.keep (below_drewN (Below.refl _ _) nq)
      go_wp2_with fail
      refine (id_any (k : Int) _).mono ?_
      rintro e w3 ⟨rfl, hb3⟩
      have F3 := Lib.hid (F2.out.keep hb3)
      have C3 := Lib.hid (F3.out.put (a := z % ((k : Int) + 1)) (x := (1, 1, (k : Int))) (sn := par z) (ok_id (by omega) (by omega)) (by have := HLP.out.2; omega) (by have := HLP.out.2; omega) (by rw [HLF.out]; omega))
      rw [HLP.out.1.1, HLP.out.1.2] at C3
      simp only [nmV] at C3
      clear hb3 F1 F2 c0 c1
      go_wp2_with fail
      refine (C3.out).mono ?_
      rintro e w4 ⟨rfl, hj4⟩
      have F4 := Lib.hid hj4
      clear hj4 C3 F3
      go_wp2_with fail
      refine (id_any (k : Int) _).mono ?_
      rintro e w5 ⟨rfl, hb5⟩
      have F5 := Lib.hid (F4.out.keep hb5)
      have C5 := Lib.hid (F5.out.refPut (a := z % ((k : Int) + 1)) (x := (1, 1, (k : Int))) (sn := par z) (by have := HLP.out.2; omega) (by have := HLP.out.2; omega) (by rw [HLF.out]; omega))
      rw [HLP.out.1.1, HLP.out.1.2] at C5
      simp only [nmV] at C5
      clear hb5 F4
      go_wp2_with fail
      refine (C5.out).mono ?_
      rintro e w6 ⟨rfl, hj6⟩
      have F6 := Lib.hid hj6
      clear hj6 C5 F5
      go_wp2
      go_roundw
      case rel => exact ⟨k + 1, by omega, by go_num, F6⟩
      case measure => simp [intOf]; omega
    · have hkk := HN3.out k hk hlt
      have hll := Lf_len zs k
      have L0 : Hid (∃ l, l.length = k ∧ JO s r w l l wr) := ⟨_, hll, F1.out⟩
      have hk4 : k ≤ 400 := by omega
      have hcs : (((k : Int) < (len : Int)) ∧ k < len ∧ ¬ ((k : Int) < 400) ∧ ¬ k < 400) ∨ (¬ ((k : Int) < (len : Int)) ∧ ¬ k < len) := by omega
      clear hlt HN3 HN4 hN1 hN2 hkk F1 hll HR HW hzl
      rcases hcs with ⟨hp1, hp2, hp3, hp4⟩ | ⟨hp1, hp2⟩
      · obtain ⟨wo, rfl⟩ : ∃ wo : World, wo = wr := ⟨_, rfl⟩
        go_wp2
        go_loopw [11] (fun ix wr => ∃ j : Nat, j ≤ M ∧ ix = .int .i64 (j : Int) ∧ Hid (∃ l, l.length = k ∧ JO s r w l l wr)) (fun i _ => M - (intOf i).toNat)
        case atStart => exact ⟨0, by omega, rfl, L0⟩
        case round =>
          clear L0 hp1 hp2
          obtain ⟨j, hj, rfl, L1⟩ := hrel
          obtain ⟨l, hll, hJ⟩ := L1.out
          have F1 := Lib.hid hJ
          have HLL := Lib.hid hll
          clear hJ L1
          by_cases hlt : j < len2 ∧ j < 100
          · obtain ⟨hlt1, hlt2⟩ := hlt
            have hjM := HM4.out j hj hlt1 hlt2
            have hlz1 : (j : Int) < (len2 : Int) := by omega
            have hlz2 : (j : Int) < 100 := by omega
            obtain ⟨g2, off2, z2, rfl, hg2, hc2, hz, hz1, hz2⟩ := u16_at HR2.out HW2.out (k := j) (by omega)
            have c0 := (F1.out.below.cell (p := ⟨g2, off2 + j, none⟩) hg2).trans hc2
            obtain ⟨A5, c5, c1⟩ := F1.out.facts
            rw [hll] at c1
            have hrm := @rem_in z2 k
            have HC := Lib.hid (And.intro hg2 hc2)
            have hn1 : ¬ ((k : Int) + 1 = 0) := by omega
            have hw1 : IntKind.i64.wrap z2 = z2 := by rw [IntKind.wrap_i64]; omega
            have hw2 : IntKind.i64.wrap ((k : Int) + 1) = (k : Int) + 1 := by rw [IntKind.wrap_i64]; omega
            have hw3 : z2.tmod ((k : Int) + 1) = z2 % ((k : Int) + 1) := Int.tmod_eq_emod_of_nonneg hz1
            clear hg2 hc2 hll hz
            go_wp2
            go_quiet (fail)
            have F2 : Hid (JO s r w l l (wr.drewN nq)) := F1.out.keep (below_drewN (Below.refl _ _) nq)
            obtain ⟨q, hq⟩ : ∃ q, q = z2 % ((k : Int) + 1) := ⟨_, rfl⟩
            rw [← hq]
            rw [← hq] at hrm
            have hqx : okNm (1, 1, q) := ok_id (by omega) (by omega)
            have hnd := Lib.hid F1.out.nod
            have HQX := Lib.hid hqx
            clear hq hw1 hw2 hw3 hn1 c0 c1 F1 hqx
            go_wp2_with fail
            refine (id_any q _).mono ?_
            rintro e w3 ⟨rfl, hb3⟩
            have F3 := Lib.hid (F2.out.keep hb3)
            have C3 := Lib.hid (F3.out.place HQX.out)
            obtain ⟨⟨p1, p2, p3⟩, hpp⟩ : ∃ p, p = placeR l (1, 1, q) := ⟨_, rfl⟩
            have HPP := Lib.hid hpp
            rw [← hpp] at C3
            simp only [nmV] at C3
            clear hb3 F2 hpp
            go_wp2_with fail
            refine (C3.out).mono ?_
            rintro e w4 ⟨rfl, hb4⟩
            have F4 := Lib.hid (F3.out.keep hb4)
            clear hb4 F3 C3
            go_wp2_with fail
            refine (id_any q _).mono ?_
            rintro e w5 ⟨rfl, hb5⟩
            have F5 := Lib.hid (F4.out.keep hb5)
            have C5 := Lib.hid (F5.out.refPlace hnd.out (x := (1, 1, q)))
            rw [← HPP.out] at C5
            simp only [nmV] at C5
            clear hb5 F4 HPP
            go_wp2_with fail
            refine (C5.out).mono ?_
            rintro e w6 ⟨rfl, hb6⟩
            have F6 := Lib.hid (F5.out.keep hb6)
            have C6 := Lib.hid (F6.out.find (a := q) (by omega) (by omega))
            obtain ⟨⟨⟨x1, x2, x3⟩, ef⟩, hxx⟩ : ∃ x, x = findR l q := ⟨_, rfl⟩
            have HXX := Lib.hid hxx
            rw [← hxx] at C6
            simp only [nmV] at C6
            clear hb6 F5 C5 hxx
            go_wp2_with fail
            refine (C6.out).mono ?_
            rintro e w7 ⟨rfl, hb7⟩
            have hka : Below w7.heap.size w7 (w7.alloc (.cells #[.int .i64 x1, .int .i64 x2, .int .i64 x3] 35)) := (Below.refl _ _).alloc (Nat.le_refl _) _
            have F7 := Lib.hid ((F6.out.keep hb7).keep hka)
            have C7 := Lib.hid (F7.out.refFind (a := q) (by omega) (by omega))
            rw [← HXX.out] at C7
            simp only [nmV] at C7
            clear hb7 F6 C6 HXX hka
            go_wp2_with fail
            refine (C7.out).mono ?_
            rintro e w8 ⟨rfl, hb8⟩
            have hbx := (hb8.block w7.heap.size (by simp)).trans (heap_alloc_new w7 (.cells #[.int .i64 x1, .int .i64 x2, .int .i64 x3] 35))
            have y0 := cells_at hbx 0
            have y1 := cells_at hbx 1
            have y2 := cells_at hbx 2
            have hbl := heap_lt hbx
            have hbne : w7.heap.size ≠ w8.heap.size := by omega
            have F8 := Lib.hid ((F7.out.keep hb8).keep (w' := w8.alloc (.cells #[.int .i64 x1, .int .i64 x2, .int .i64 x3] 35)) ((Below.refl _ _).alloc (Nat.le_refl _) _))
            have hNe : ∀ W : World, (binOp .neq 35 (.agg #[.int .i64 x1, .int .i64 x2, .int .i64 x3]) (.agg #[.int .i64 x1, .int .i64 x2, .int .i64 x3])).run Try.prog W = .ok (.bool false) W := fun W => by rw [nm_neq]; simp
            clear hb8 F7 C7 hbx
            obtain ⟨W7, hW7⟩ : ∃ W7, W7 = w8.alloc (.cells #[.int .i64 x1, .int .i64 x2, .int .i64 x3] 35) := ⟨_, rfl⟩
            have HW7 : Hid (w8.alloc (.cells #[.int .i64 x1, .int .i64 x2, .int .i64 x3] 35) = W7) := hW7.symm
            rw [← hW7] at F8
            clear hW7
            have F9 : Hid (JO s r w l l W7.drew) := F8.out.keep (Below.refl _ _).drew
            have c9 : W7.drew.cell? ⟨g2, off2 + j, none⟩ = some (.int .u16 z2) := (F9.out.below.cell (p := ⟨g2, off2 + j, none⟩) HC.out.1).trans HC.out.2
            obtain ⟨se, hse⟩ : ∃ se, se = showE l (1, 1, q) := ⟨_, rfl⟩
            obtain ⟨l', hl'⟩ : ∃ l', l' = showL l (1, 1, q) (par2 z2) := ⟨_, rfl⟩
            have HSE := Lib.hid hse
            have HL' := Lib.hid hl'
            clear hse hl'
            have ID2 : Hid (∀ l1 m1 W, Hid (JO s r w l1 m1 W) → Calls Try.prog 13 #[.int .i64 q] W fun e w' => e = .returned (.agg #[.int .i64 1, .int .i64 1, .int .i64 q]) ∧ w'.cell? ⟨g2, off2 + j, none⟩ = some (.int .u16 z2) ∧ Hid (JO s r w l1 m1 w')) := by
              intro l1 m1 W hW
              refine (id_any q W).mono ?_
              rintro e w' ⟨he, hb⟩
              have h2 := hW.out.keep hb
              exact ⟨he, (h2.below.cell (p := ⟨g2, off2 + j, none⟩) HC.out.1).trans HC.out.2, h2⟩
            have SH : Hid (∀ m1 W, Hid (JO s r w l m1 W) → Calls Try.prog 19 #[.pointer (some ⟨s, 0, none⟩), .agg #[.int .i64 1, .int .i64 1, .int .i64 q], .bool (par2 z2)] W fun e w' => e = .returned (.int .i64 se) ∧ w'.cell? ⟨g2, off2 + j, none⟩ = some (.int .u16 z2) ∧ Hid (JO s r w l' m1 w')) := by
              intro m1 W hW
              refine (hW.out.show (x := (1, 1, q)) (b := par2 z2) HQX.out).mono ?_
              rintro e w' ⟨he, h2⟩
              rw [← HL'.out] at h2
              exact ⟨by rw [he, HSE.out], (h2.below.cell (p := ⟨g2, off2 + j, none⟩) HC.out.1).trans HC.out.2, h2⟩
            have RS : Hid (∀ l1 W, Hid (JO s r w l1 l W) → Calls Try.prog 20 #[.pointer (some ⟨r, 0, none⟩), .agg #[.int .i64 1, .int .i64 1, .int .i64 q], .bool (par2 z2)] W fun e w' => e = .returned (.int .i64 se) ∧ w'.cell? ⟨g2, off2 + j, none⟩ = some (.int .u16 z2) ∧ Hid (JO s r w l1 l' w')) := by
              intro l1 W hW
              refine (hW.out.refShow hnd.out (x := (1, 1, q)) (b := par2 z2)).mono ?_
              rintro e w' ⟨he, h2⟩
              rw [← HL'.out] at h2
              exact ⟨by rw [he, HSE.out], (h2.below.cell (p := ⟨g2, off2 + j, none⟩) HC.out.1).trans HC.out.2, h2⟩
            go_upto_region 24 with fail
            rw [HW7.out]
            refine wp_region_noPanic ?_
            refine wp_region_held_drew (S := fun W => W.cell? ⟨g2, off2 + j, none⟩ = some (.int .u16 z2)) (by kernel_rfl) c9 (fun hHeld => ?_)
            refine wpAnyH_take (i := 0) (oi := { dst := some 145, op := Op.move (Operand.tmp 6), type := 24, pos := "law.go:99", after := #[], guard := none }) (v := ?v1) rfl (by kernel_rfl) (by kernel_rfl) (by kernel_rfl) (fun _ _ _ h => h) (Or.inl ⟨by rfl, ?y1⟩) hHeld ?r1
            case y1 =>
              intro wv hSw
              (try dsimp only at hSw)
              go_simp
              all_goals (with_reducible rfl)
            simp only [Act.put, List.setIfInBounds_toArray, List.set_cons_zero, List.set_cons_succ]
            refine wpAnyH_take (i := 1) (oi := { dst := some 146, op := Op.move (Operand.tmp 12), type := 3, pos := "law.go:99", after := #[], guard := none }) (v := ?v2) rfl (by kernel_rfl) (by kernel_rfl) (by kernel_rfl) (fun _ _ _ h => h) (Or.inl ⟨by rfl, ?y2⟩) hHeld ?r2
            case y2 =>
              intro wv hSw
              (try dsimp only at hSw)
              go_simp
              all_goals (with_reducible rfl)
            simp only [Act.put, List.setIfInBounds_toArray, List.set_cons_zero, List.set_cons_succ]
            refine wpAnyH_take (i := 3) (oi := { dst := some 148, op := Op.move (Operand.tmp 1), type := 41, pos := "law.go:99", after := #[], guard := none }) (v := ?v3) rfl (by kernel_rfl) (by kernel_rfl) (by kernel_rfl) (fun _ _ _ h => h) (Or.inl ⟨by rfl, ?y3⟩) hHeld ?r3
            case y3 =>
              intro wv hSw
              (try dsimp only at hSw)
              go_simp
              all_goals (with_reducible rfl)
            simp only [Act.put, List.setIfInBounds_toArray, List.set_cons_zero, List.set_cons_succ]
            refine wpAnyH_take (i := 4) (oi := { dst := some 149, op := Op.move (Operand.tmp 11), type := 3, pos := "law.go:99", after := #[], guard := none }) (v := ?v4) rfl (by kernel_rfl) (by kernel_rfl) (by kernel_rfl) (fun _ _ _ h => h) (Or.inl ⟨by rfl, ?y4⟩) hHeld ?r4
            case y4 =>
              intro wv hSw
              (try dsimp only at hSw)
              go_simp
              all_goals (with_reducible rfl)
            simp only [Act.put, List.setIfInBounds_toArray, List.set_cons_zero, List.set_cons_succ]
            refine wpAnyH_take (i := 5) (oi := { dst := some 150, op := Op.indexAddr 41 (Operand.tmp 148) (Operand.tmp 149), type := 0, pos := "law.go:99", after := #[{ on := 3, ground := Ground.data }, { on := 4, ground := Ground.data }], guard := none }) (v := ?v5) rfl (by kernel_rfl) (by kernel_rfl) (by kernel_rfl) (fun _ _ _ h => h) (Or.inl ⟨by rfl, ?y5⟩) hHeld ?r5
            case y5 =>
              intro wv hSw
              (try dsimp only at hSw)
              go_simp
              all_goals (with_reducible rfl)
            simp only [Act.put, List.setIfInBounds_toArray, List.set_cons_zero, List.set_cons_succ]
            refine wpAnyH_take (i := 6) (oi := { dst := some 151, op := Op.load 42 (Operand.tmp 150), type := 42, pos := "law.go:99", after := #[{ on := 5, ground := Ground.data }], guard := none }) (v := ?v6) rfl (by kernel_rfl) (by kernel_rfl) (by kernel_rfl) (fun _ _ _ h => h) (Or.inl ⟨by rfl, ?y6⟩) hHeld ?r6
            case y6 =>
              intro wv hSw
              (try dsimp only at hSw)
              go_simp
              all_goals (with_reducible rfl)
            simp only [Act.put, List.setIfInBounds_toArray, List.set_cons_zero, List.set_cons_succ]
            refine wpAnyH_take (i := 7) (oi := { dst := some 152, op := Op.binOp BinOp.and 42 (Operand.tmp 151) (Operand.const (Value.int IntKind.u16 2)) 42, type := 42, pos := "law.go:99", after := #[{ on := 6, ground := Ground.data }], guard := none }) (v := ?v7) rfl (by kernel_rfl) (by kernel_rfl) (by kernel_rfl) (fun _ _ _ h => h) (Or.inl ⟨by rfl, ?y7⟩) hHeld ?r7
            case y7 =>
              intro wv hSw
              (try dsimp only at hSw)
              go_simp
              all_goals (with_reducible rfl)
            simp only [Act.put, List.setIfInBounds_toArray, List.set_cons_zero, List.set_cons_succ]
            refine wpAnyH_take (i := 8) (oi := { dst := some 153, op := Op.binOp BinOp.eql 42 (Operand.tmp 152) (Operand.const (Value.int IntKind.u16 0)) 42, type := 4, pos := "law.go:99", after := #[{ on := 7, ground := Ground.data }], guard := none }) (v := ?v8) rfl (by kernel_rfl) (by kernel_rfl) (by kernel_rfl) (fun _ _ _ h => h) (Or.inl ⟨by rfl, ?y8⟩) hHeld ?r8
            case y8 =>
              intro wv hSw
              (try dsimp only at hSw)
              go_simp
              all_goals (with_reducible rfl)
            simp only [Act.put, List.setIfInBounds_toArray, List.set_cons_zero, List.set_cons_succ]
            refine wpAnyH_take (i := 10) (oi := { dst := some 155, op := Op.move (Operand.tmp 7), type := 26, pos := "law.go:99", after := #[], guard := none }) (v := ?v9) rfl (by kernel_rfl) (by kernel_rfl) (by kernel_rfl) (fun _ _ _ h => h) (Or.inl ⟨by rfl, ?y9⟩) hHeld ?r9
            case y9 =>
              intro wv hSw
              (try dsimp only at hSw)
              go_simp
              all_goals (with_reducible rfl)
            simp only [Act.put, List.setIfInBounds_toArray, List.set_cons_zero, List.set_cons_succ]
            refine wpAnyH_take (i := 11) (oi := { dst := some 156, op := Op.move (Operand.tmp 12), type := 3, pos := "law.go:99", after := #[], guard := none }) (v := ?v10) rfl (by kernel_rfl) (by kernel_rfl) (by kernel_rfl) (fun _ _ _ h => h) (Or.inl ⟨by rfl, ?y10⟩) hHeld ?r10
            case y10 =>
              intro wv hSw
              (try dsimp only at hSw)
              go_simp
              all_goals (with_reducible rfl)
            simp only [Act.put, List.setIfInBounds_toArray, List.set_cons_zero, List.set_cons_succ]
            refine wpAnyH_take (i := 13) (oi := { dst := some 158, op := Op.move (Operand.tmp 1), type := 41, pos := "law.go:99", after := #[], guard := none }) (v := ?v11) rfl (by kernel_rfl) (by kernel_rfl) (by kernel_rfl) (fun _ _ _ h => h) (Or.inl ⟨by rfl, ?y11⟩) hHeld ?r11
            case y11 =>
              intro wv hSw
              (try dsimp only at hSw)
              go_simp
              all_goals (with_reducible rfl)
            simp only [Act.put, List.setIfInBounds_toArray, List.set_cons_zero, List.set_cons_succ]
            refine wpAnyH_take (i := 14) (oi := { dst := some 159, op := Op.move (Operand.tmp 11), type := 3, pos := "law.go:99", after := #[], guard := none }) (v := ?v12) rfl (by kernel_rfl) (by kernel_rfl) (by kernel_rfl) (fun _ _ _ h => h) (Or.inl ⟨by rfl, ?y12⟩) hHeld ?r12
            case y12 =>
              intro wv hSw
              (try dsimp only at hSw)
              go_simp
              all_goals (with_reducible rfl)
            simp only [Act.put, List.setIfInBounds_toArray, List.set_cons_zero, List.set_cons_succ]
            refine wpAnyH_take (i := 15) (oi := { dst := some 160, op := Op.indexAddr 41 (Operand.tmp 158) (Operand.tmp 159), type := 0, pos := "law.go:99", after := #[{ on := 13, ground := Ground.data }, { on := 14, ground := Ground.data }], guard := none }) (v := ?v13) rfl (by kernel_rfl) (by kernel_rfl) (by kernel_rfl) (fun _ _ _ h => h) (Or.inl ⟨by rfl, ?y13⟩) hHeld ?r13
            case y13 =>
              intro wv hSw
              (try dsimp only at hSw)
              go_simp
              all_goals (with_reducible rfl)
            simp only [Act.put, List.setIfInBounds_toArray, List.set_cons_zero, List.set_cons_succ]
            refine wpAnyH_take (i := 16) (oi := { dst := some 161, op := Op.load 42 (Operand.tmp 160), type := 42, pos := "law.go:99", after := #[{ on := 15, ground := Ground.data }], guard := none }) (v := ?v14) rfl (by kernel_rfl) (by kernel_rfl) (by kernel_rfl) (fun _ _ _ h => h) (Or.inl ⟨by rfl, ?y14⟩) hHeld ?r14
            case y14 =>
              intro wv hSw
              (try dsimp only at hSw)
              go_simp
              all_goals (with_reducible rfl)
            simp only [Act.put, List.setIfInBounds_toArray, List.set_cons_zero, List.set_cons_succ]
            refine wpAnyH_take (i := 17) (oi := { dst := some 162, op := Op.binOp BinOp.and 42 (Operand.tmp 161) (Operand.const (Value.int IntKind.u16 2)) 42, type := 42, pos := "law.go:99", after := #[{ on := 16, ground := Ground.data }], guard := none }) (v := ?v15) rfl (by kernel_rfl) (by kernel_rfl) (by kernel_rfl) (fun _ _ _ h => h) (Or.inl ⟨by rfl, ?y15⟩) hHeld ?r15
            case y15 =>
              intro wv hSw
              (try dsimp only at hSw)
              go_simp
              all_goals (with_reducible rfl)
            simp only [Act.put, List.setIfInBounds_toArray, List.set_cons_zero, List.set_cons_succ]
            refine wpAnyH_take (i := 18) (oi := { dst := some 163, op := Op.binOp BinOp.eql 42 (Operand.tmp 162) (Operand.const (Value.int IntKind.u16 0)) 42, type := 4, pos := "law.go:99", after := #[{ on := 17, ground := Ground.data }], guard := none }) (v := ?v16) rfl (by kernel_rfl) (by kernel_rfl) (by kernel_rfl) (fun _ _ _ h => h) (Or.inl ⟨by rfl, ?y16⟩) hHeld ?r16
            case y16 =>
              intro wv hSw
              (try dsimp only at hSw)
              go_simp
              all_goals (with_reducible rfl)
            simp only [Act.put, List.setIfInBounds_toArray, List.set_cons_zero, List.set_cons_succ]
            refine wpAnyH_ready (rs := [2]) (by kernel_rfl) (by simp) ?_
            refine AllReadyH.cons (o := { dst := some 147, op := Op.call { callee := Callee.value (Operand.func 13), args := #[Operand.tmp 146], argTypes := #[3] }, type := 35, pos := "law.go:99", after := #[{ on := 1, ground := Ground.data }], guard := none }) rfl (fun K hK => ?_) AllReadyH.nil
            go_simp
            refine (ID2.out _ _ _ (by assumption)).mono ?_
            rintro e w9 ⟨rfl, j0, HJ9⟩
            go_simp
            refine hK.out _ _ (by exact j0) (fun hHeld => ?_)
            clear hK K
            (try simp only [Act.put, List.setIfInBounds_toArray, List.set_cons_zero, List.set_cons_succ])
            refine wpAnyH_ready (rs := [9]) (by kernel_rfl) (by simp) ?_
            refine AllReadyH.cons (o := { dst := some 154, op := Op.call { callee := Callee.value (Operand.func 19), args := #[Operand.tmp 145, Operand.tmp 147, Operand.tmp 153], argTypes := #[24, 35, 4] }, type := 43, pos := "law.go:99", after := #[{ on := 0, ground := Ground.data }, { on := 2, ground := Ground.data }, { on := 8, ground := Ground.data }, { on := 2, ground := Ground.chain }], guard := none }) rfl (fun K hK => ?_) AllReadyH.nil
            go_simp
            refine (SH.out _ _ (by assumption)).mono ?_
            rintro e w9 ⟨rfl, j0, HJ9⟩
            go_simp
            refine hK.out _ _ (by exact j0) (fun hHeld => ?_)
            clear hK K
            (try simp only [Act.put, List.setIfInBounds_toArray, List.set_cons_zero, List.set_cons_succ])
            refine wpAnyH_ready (rs := [12]) (by kernel_rfl) (by simp) ?_
            refine AllReadyH.cons (o := { dst := some 157, op := Op.call { callee := Callee.value (Operand.func 13), args := #[Operand.tmp 156], argTypes := #[3] }, type := 35, pos := "law.go:99", after := #[{ on := 11, ground := Ground.data }, { on := 9, ground := Ground.chain }], guard := none }) rfl (fun K hK => ?_) AllReadyH.nil
            go_simp
            refine (ID2.out _ _ _ (by assumption)).mono ?_
            rintro e w9 ⟨rfl, j0, HJ9⟩
            go_simp
            refine hK.out _ _ (by exact j0) (fun hHeld => ?_)
            clear hK K
            (try simp only [Act.put, List.setIfInBounds_toArray, List.set_cons_zero, List.set_cons_succ])
            refine wpAnyH_ready (rs := [19]) (by kernel_rfl) (by simp) ?_
            refine AllReadyH.cons (o := { dst := some 164, op := Op.call { callee := Callee.value (Operand.func 20), args := #[Operand.tmp 155, Operand.tmp 157, Operand.tmp 163], argTypes := #[26, 35, 4] }, type := 43, pos := "law.go:99", after := #[{ on := 10, ground := Ground.data }, { on := 12, ground := Ground.data }, { on := 18, ground := Ground.data }, { on := 12, ground := Ground.chain }], guard := none }) rfl (fun K hK => ?_) AllReadyH.nil
            go_simp
            refine (RS.out _ _ (by assumption)).mono ?_
            rintro e w9 ⟨rfl, j0, HJ9⟩
            go_simp
            refine hK.out _ _ (by exact j0) (fun hHeld => ?_)
            clear hK K
            (try simp only [Act.put, List.setIfInBounds_toArray, List.set_cons_zero, List.set_cons_succ])
            refine wpAnyH_take (i := 20) (oi := { dst := some 165, op := Op.binOp BinOp.neq 43 (Operand.tmp 154) (Operand.tmp 164) 43, type := 4, pos := "law.go:99", after := #[{ on := 9, ground := Ground.data }, { on := 19, ground := Ground.data }], guard := none }) (v := ?v17) rfl (by kernel_rfl) (by kernel_rfl) (by kernel_rfl) (fun _ _ _ h => h) (Or.inl ⟨by rfl, ?y17⟩) hHeld ?r17
            case y17 =>
              intro wv hSw
              (try dsimp only at hSw)
              go_simp
              all_goals (with_reducible rfl)
            simp only [Act.put, List.setIfInBounds_toArray, List.set_cons_zero, List.set_cons_succ]
            refine wpAnyH_done (by kernel_rfl) ?_ _
            refine NoPanic.normal ?_
            clear hHeld
            go_wp2
            go_roundw
            case rel => exact ⟨j + 1, by omega, by go_num, l', by rw [HL'.out, showL_len]; exact HLL.out, HJ9.out⟩
            case measure => simp [intOf]; omega
          · have hjj := HM3.out j hj hlt
            have hcs2 : (((j : Int) < (len2 : Int)) ∧ j < len2 ∧ ¬ ((j : Int) < 100) ∧ ¬ j < 100) ∨ (¬ ((j : Int) < (len2 : Int)) ∧ ¬ j < len2) := by omega
            have hlb : (listR l true).length ≤ 1000000 := by
              have h1 := listR_le l true
              have h2 := HLL.out
              omega
            have HLB := Lib.hid hlb
            clear hlt hjj HM3 HM4 hM1 hM2 hlb
            rcases hcs2 with ⟨hq1, hq2, hq3, hq4⟩ | ⟨hq1, hq2⟩
            all_goals
              have C1 := Lib.hid F1.out.count
              go_wp2_with fail
              refine (C1.out).mono ?_
              rintro e w3 ⟨rfl, hb3⟩
              have F3 := Lib.hid (F1.out.keep hb3)
              clear hb3 C1 hq1 hq2
              have C3 := Lib.hid F3.out.refCount
              go_wp2_with fail
              refine (C3.out).mono ?_
              rintro e w4 ⟨rfl, hb4⟩
              have F4 := Lib.hid (F3.out.keep hb4)
              clear hb4 C3 F3 F1
              have C4 := Lib.hid (F4.out.list true)
              go_wp2_with fail
              refine (C4.out).mono ?_
              rintro e w5 ⟨A1, c1, rfl, hra, hb5⟩
              have F5 := Lib.hid (F4.out.keep hb5)
              have R5 := Lib.hid hra
              clear hb5 hra C4 F4
              have C5 := Lib.hid (F5.out.refList true)
              go_wp2_with fail
              refine (C5.out).mono ?_
              rintro e w6 ⟨A2, c2, rfl, hrb, hb6⟩
              have F6 := Lib.hid (F5.out.keep hb6)
              have C6 := Lib.hid (sameIds_any A1 A2 _ c1 c2 _ w6 (R5.out.keep hb6) hrb rfl HLB.out)
              clear hb6 hrb C5 F5 R5
              go_wp2_with fail
              refine (C6.out).mono ?_
              rintro e w7 ⟨rfl, hb7⟩
              have F7 := Lib.hid (F6.out.keep hb7)
              clear hb7
              go_wp2
              go_ret
              exact ⟨by trivial, F7.out.below⟩
      · obtain ⟨wo, rfl⟩ : ∃ wo : World, wo = wr := ⟨_, rfl⟩
        go_wp2
        go_loopw [11] (fun ix wr => ∃ j : Nat, j ≤ M ∧ ix = .int .i64 (j : Int) ∧ Hid (∃ l, l.length = k ∧ JO s r w l l wr)) (fun i _ => M - (intOf i).toNat)
        case atStart => exact ⟨0, by omega, rfl, L0⟩
        case round =>
          clear L0 hp1 hp2
          obtain ⟨j, hj, rfl, L1⟩ := hrel
          obtain ⟨l, hll, hJ⟩ := L1.out
          have F1 := Lib.hid hJ
          have HLL := Lib.hid hll
          clear hJ L1
          by_cases hlt : j < len2 ∧ j < 100
          · obtain ⟨hlt1, hlt2⟩ := hlt
            have hjM := HM4.out j hj hlt1 hlt2
            have hlz1 : (j : Int) < (len2 : Int) := by omega
            have hlz2 : (j : Int) < 100 := by omega
            obtain ⟨g2, off2, z2, rfl, hg2, hc2, hz, hz1, hz2⟩ := u16_at HR2.out HW2.out (k := j) (by omega)
            have c0 := (F1.out.below.cell (p := ⟨g2, off2 + j, none⟩) hg2).trans hc2
            obtain ⟨A5, c5, c1⟩ := F1.out.facts
            rw [hll] at c1
            have hrm := @rem_in z2 k
            have HC := Lib.hid (And.intro hg2 hc2)
            have hn1 : ¬ ((k : Int) + 1 = 0) := by omega
            have hw1 : IntKind.i64.wrap z2 = z2 := by rw [IntKind.wrap_i64]; omega
            have hw2 : IntKind.i64.wrap ((k : Int) + 1) = (k : Int) + 1 := by rw [IntKind.wrap_i64]; omega
            have hw3 : z2.tmod ((k : Int) + 1) = z2 % ((k : Int) + 1) := Int.tmod_eq_emod_of_nonneg hz1
            clear hg2 hc2 hll hz
            go_wp2
            go_quiet (fail)
            have F2 : Hid (JO s r w l l (wr.drewN nq)) := F1.out.keep (below_drewN (Below.refl _ _) nq)
            obtain ⟨q, hq⟩ : ∃ q, q = z2 % ((k : Int) + 1) := ⟨_, rfl⟩
            rw [← hq]
            rw [← hq] at hrm
            have hqx : okNm (1, 1, q) := ok_id (by omega) (by omega)
            have hnd := Lib.hid F1.out.nod
            have HQX := Lib.hid hqx
            clear hq hw1 hw2 hw3 hn1 c0 c1 F1 hqx
            go_wp2_with fail
            refine (id_any q _).mono ?_
            rintro e w3 ⟨rfl, hb3⟩
            have F3 := Lib.hid (F2.out.keep hb3)
            have C3 := Lib.hid (F3.out.place HQX.out)
            obtain ⟨⟨p1, p2, p3⟩, hpp⟩ : ∃ p, p = placeR l (1, 1, q) := ⟨_, rfl⟩
            have HPP := Lib.hid hpp
            rw [← hpp] at C3
            simp only [nmV] at C3
            clear hb3 F2 hpp
            go_wp2_with fail
            refine (C3.out).mono ?_
            rintro e w4 ⟨rfl, hb4⟩
            have F4 := Lib.hid (F3.out.keep hb4)
            clear hb4 F3 C3
            go_wp2_with fail
            refine (id_any q _).mono ?_
            rintro e w5 ⟨rfl, hb5⟩
            have F5 := Lib.hid (F4.out.keep hb5)
            have C5 := Lib.hid (F5.out.refPlace hnd.out (x := (1, 1, q)))
            rw [← HPP.out] at C5
            simp only [nmV] at C5
            clear hb5 F4 HPP
            go_wp2_with fail
            refine (C5.out).mono ?_
            rintro e w6 ⟨rfl, hb6⟩
            have F6 := Lib.hid (F5.out.keep hb6)
            have C6 := Lib.hid (F6.out.find (a := q) (by omega) (by omega))
            obtain ⟨⟨⟨x1, x2, x3⟩, ef⟩, hxx⟩ : ∃ x, x = findR l q := ⟨_, rfl⟩
            have HXX := Lib.hid hxx
            rw [← hxx] at C6
            simp only [nmV] at C6
            clear hb6 F5 C5 hxx
            go_wp2_with fail
            refine (C6.out).mono ?_
            rintro e w7 ⟨rfl, hb7⟩
            have hka : Below w7.heap.size w7 (w7.alloc (.cells #[.int .i64 x1, .int .i64 x2, .int .i64 x3] 35)) := (Below.refl _ _).alloc (Nat.le_refl _) _
            have F7 := Lib.hid ((F6.out.keep hb7).keep hka)
            have C7 := Lib.hid (F7.out.refFind (a := q) (by omega) (by omega))
            rw [← HXX.out] at C7
            simp only [nmV] at C7
            clear hb7 F6 C6 HXX hka
            go_wp2_with fail
            refine (C7.out).mono ?_
            rintro e w8 ⟨rfl, hb8⟩
            have hbx := (hb8.block w7.heap.size (by simp)).trans (heap_alloc_new w7 (.cells #[.int .i64 x1, .int .i64 x2, .int .i64 x3] 35))
            have y0 := cells_at hbx 0
            have y1 := cells_at hbx 1
            have y2 := cells_at hbx 2
            have hbl := heap_lt hbx
            have hbne : w7.heap.size ≠ w8.heap.size := by omega
            have F8 := Lib.hid ((F7.out.keep hb8).keep (w' := w8.alloc (.cells #[.int .i64 x1, .int .i64 x2, .int .i64 x3] 35)) ((Below.refl _ _).alloc (Nat.le_refl _) _))
            have hNe : ∀ W : World, (binOp .neq 35 (.agg #[.int .i64 x1, .int .i64 x2, .int .i64 x3]) (.agg #[.int .i64 x1, .int .i64 x2, .int .i64 x3])).run Try.prog W = .ok (.bool false) W := fun W => by rw [nm_neq]; simp
            clear hb8 F7 C7 hbx
            obtain ⟨W7, hW7⟩ : ∃ W7, W7 = w8.alloc (.cells #[.int .i64 x1, .int .i64 x2, .int .i64 x3] 35) := ⟨_, rfl⟩
            have HW7 : Hid (w8.alloc (.cells #[.int .i64 x1, .int .i64 x2, .int .i64 x3] 35) = W7) := hW7.symm
            rw [← hW7] at F8
            clear hW7
            have F9 : Hid (JO s r w l l W7.drew) := F8.out.keep (Below.refl _ _).drew
            have c9 : W7.drew.cell? ⟨g2, off2 + j, none⟩ = some (.int .u16 z2) := (F9.out.below.cell (p := ⟨g2, off2 + j, none⟩) HC.out.1).trans HC.out.2
            obtain ⟨se, hse⟩ : ∃ se, se = showE l (1, 1, q) := ⟨_, rfl⟩
            obtain ⟨l', hl'⟩ : ∃ l', l' = showL l (1, 1, q) (par2 z2) := ⟨_, rfl⟩
            have HSE := Lib.hid hse
            have HL' := Lib.hid hl'
            clear hse hl'
            have ID2 : Hid (∀ l1 m1 W, Hid (JO s r w l1 m1 W) → Calls Try.prog 13 #[.int .i64 q] W fun e w' => e = .returned (.agg #[.int .i64 1, .int .i64 1, .int .i64 q]) ∧ w'.cell? ⟨g2, off2 + j, none⟩ = some (.int .u16 z2) ∧ Hid (JO s r w l1 m1 w')) := by
              intro l1 m1 W hW
              refine (id_any q W).mono ?_
              rintro e w' ⟨he, hb⟩
              have h2 := hW.out.keep hb
              exact ⟨he, (h2.below.cell (p := ⟨g2, off2 + j, none⟩) HC.out.1).trans HC.out.2, h2⟩
            have SH : Hid (∀ m1 W, Hid (JO s r w l m1 W) → Calls Try.prog 19 #[.pointer (some ⟨s, 0, none⟩), .agg #[.int .i64 1, .int .i64 1, .int .i64 q], .bool (par2 z2)] W fun e w' => e = .returned (.int .i64 se) ∧ w'.cell? ⟨g2, off2 + j, none⟩ = some (.int .u16 z2) ∧ Hid (JO s r w l' m1 w')) := by
              intro m1 W hW
              refine (hW.out.show (x := (1, 1, q)) (b := par2 z2) HQX.out).mono ?_
              rintro e w' ⟨he, h2⟩
              rw [← HL'.out] at h2
              exact ⟨by rw [he, HSE.out], (h2.below.cell (p := ⟨g2, off2 + j, none⟩) HC.out.1).trans HC.out.2, h2⟩
            have RS : Hid (∀ l1 W, Hid (JO s r w l1 l W) → Calls Try.prog 20 #[.pointer (some ⟨r, 0, none⟩), .agg #[.int .i64 1, .int .i64 1, .int .i64 q], .bool (par2 z2)] W fun e w' => e = .returned (.int .i64 se) ∧ w'.cell? ⟨g2, off2 + j, none⟩ = some (.int .u16 z2) ∧ Hid (JO s r w l1 l' w')) := by
              intro l1 W hW
              refine (hW.out.refShow hnd.out (x := (1, 1, q)) (b := par2 z2)).mono ?_
              rintro e w' ⟨he, h2⟩
              rw [← HL'.out] at h2
              exact ⟨by rw [he, HSE.out], (h2.below.cell (p := ⟨g2, off2 + j, none⟩) HC.out.1).trans HC.out.2, h2⟩
            go_upto_region 24 with fail
            rw [HW7.out]
            refine wp_region_noPanic ?_
            refine wp_region_held_drew (S := fun W => W.cell? ⟨g2, off2 + j, none⟩ = some (.int .u16 z2)) (by kernel_rfl) c9 (fun hHeld => ?_)
            refine wpAnyH_take (i := 0) (oi := { dst := some 145, op := Op.move (Operand.tmp 6), type := 24, pos := "law.go:99", after := #[], guard := none }) (v := ?v18) rfl (by kernel_rfl) (by kernel_rfl) (by kernel_rfl) (fun _ _ _ h => h) (Or.inl ⟨by rfl, ?y18⟩) hHeld ?r18
            case y18 =>
              intro wv hSw
              (try dsimp only at hSw)
              go_simp
              all_goals (with_reducible rfl)
            simp only [Act.put, List.setIfInBounds_toArray, List.set_cons_zero, List.set_cons_succ]
            refine wpAnyH_take (i := 1) (oi := { dst := some 146, op := Op.move (Operand.tmp 12), type := 3, pos := "law.go:99", after := #[], guard := none }) (v := ?v19) rfl (by kernel_rfl) (by kernel_rfl) (by kernel_rfl) (fun _ _ _ h => h) (Or.inl ⟨by rfl, ?y19⟩) hHeld ?r19
            case y19 =>
              intro wv hSw
              (try dsimp only at hSw)
              go_simp
              all_goals (with_reducible rfl)
            simp only [Act.put, List.setIfInBounds_toArray, List.set_cons_zero, List.set_cons_succ]
            refine wpAnyH_take (i := 3) (oi := { dst := some 148, op := Op.move (Operand.tmp 1), type := 41, pos := "law.go:99", after := #[], guard := none }) (v := ?v20) rfl (by kernel_rfl) (by kernel_rfl) (by kernel_rfl) (fun _ _ _ h => h) (Or.inl ⟨by rfl, ?y20⟩) hHeld ?r20
            case y20 =>
              intro wv hSw
              (try dsimp only at hSw)
              go_simp
              all_goals (with_reducible rfl)
            simp only [Act.put, List.setIfInBounds_toArray, List.set_cons_zero, List.set_cons_succ]
            refine wpAnyH_take (i := 4) (oi := { dst := some 149, op := Op.move (Operand.tmp 11), type := 3, pos := "law.go:99", after := #[], guard := none }) (v := ?v21) rfl (by kernel_rfl) (by kernel_rfl) (by kernel_rfl) (fun _ _ _ h => h) (Or.inl ⟨by rfl, ?y21⟩) hHeld ?r21
            case y21 =>
              intro wv hSw
              (try dsimp only at hSw)
              go_simp
              all_goals (with_reducible rfl)
            simp only [Act.put, List.setIfInBounds_toArray, List.set_cons_zero, List.set_cons_succ]
            refine wpAnyH_take (i := 5) (oi := { dst := some 150, op := Op.indexAddr 41 (Operand.tmp 148) (Operand.tmp 149), type := 0, pos := "law.go:99", after := #[{ on := 3, ground := Ground.data }, { on := 4, ground := Ground.data }], guard := none }) (v := ?v22) rfl (by kernel_rfl) (by kernel_rfl) (by kernel_rfl) (fun _ _ _ h => h) (Or.inl ⟨by rfl, ?y22⟩) hHeld ?r22
            case y22 =>
              intro wv hSw
              (try dsimp only at hSw)
              go_simp
              all_goals (with_reducible rfl)
            simp only [Act.put, List.setIfInBounds_toArray, List.set_cons_zero, List.set_cons_succ]
            refine wpAnyH_take (i := 6) (oi := { dst := some 151, op := Op.load 42 (Operand.tmp 150), type := 42, pos := "law.go:99", after := #[{ on := 5, ground := Ground.data }], guard := none }) (v := ?v23) rfl (by kernel_rfl) (by kernel_rfl) (by kernel_rfl) (fun _ _ _ h => h) (Or.inl ⟨by rfl, ?y23⟩) hHeld ?r23
            case y23 =>
              intro wv hSw
              (try dsimp only at hSw)
              go_simp
              all_goals (with_reducible rfl)
            simp only [Act.put, List.setIfInBounds_toArray, List.set_cons_zero, List.set_cons_succ]
            refine wpAnyH_take (i := 7) (oi := { dst := some 152, op := Op.binOp BinOp.and 42 (Operand.tmp 151) (Operand.const (Value.int IntKind.u16 2)) 42, type := 42, pos := "law.go:99", after := #[{ on := 6, ground := Ground.data }], guard := none }) (v := ?v24) rfl (by kernel_rfl) (by kernel_rfl) (by kernel_rfl) (fun _ _ _ h => h) (Or.inl ⟨by rfl, ?y24⟩) hHeld ?r24
            case y24 =>
              intro wv hSw
              (try dsimp only at hSw)
              go_simp
              all_goals (with_reducible rfl)
            simp only [Act.put, List.setIfInBounds_toArray, List.set_cons_zero, List.set_cons_succ]
            refine wpAnyH_take (i := 8) (oi := { dst := some 153, op := Op.binOp BinOp.eql 42 (Operand.tmp 152) (Operand.const (Value.int IntKind.u16 0)) 42, type := 4, pos := "law.go:99", after := #[{ on := 7, ground := Ground.data }], guard := none }) (v := ?v25) rfl (by kernel_rfl) (by kernel_rfl) (by kernel_rfl) (fun _ _ _ h => h) (Or.inl ⟨by rfl, ?y25⟩) hHeld ?r25
            case y25 =>
              intro wv hSw
              (try dsimp only at hSw)
              go_simp
              all_goals (with_reducible rfl)
            simp only [Act.put, List.setIfInBounds_toArray, List.set_cons_zero, List.set_cons_succ]
            refine wpAnyH_take (i := 10) (oi := { dst := some 155, op := Op.move (Operand.tmp 7), type := 26, pos := "law.go:99", after := #[], guard := none }) (v := ?v26) rfl (by kernel_rfl) (by kernel_rfl) (by kernel_rfl) (fun _ _ _ h => h) (Or.inl ⟨by rfl, ?y26⟩) hHeld ?r26
            case y26 =>
              intro wv hSw
              (try dsimp only at hSw)
              go_simp
              all_goals (with_reducible rfl)
            simp only [Act.put, List.setIfInBounds_toArray, List.set_cons_zero, List.set_cons_succ]
            refine wpAnyH_take (i := 11) (oi := { dst := some 156, op := Op.move (Operand.tmp 12), type := 3, pos := "law.go:99", after := #[], guard := none }) (v := ?v27) rfl (by kernel_rfl) (by kernel_rfl) (by kernel_rfl) (fun _ _ _ h => h) (Or.inl ⟨by rfl, ?y27⟩) hHeld ?r27
            case y27 =>
              intro wv hSw
              (try dsimp only at hSw)
              go_simp
              all_goals (with_reducible rfl)
            simp only [Act.put, List.setIfInBounds_toArray, List.set_cons_zero, List.set_cons_succ]
            refine wpAnyH_take (i := 13) (oi := { dst := some 158, op := Op.move (Operand.tmp 1), type := 41, pos := "law.go:99", after := #[], guard := none }) (v := ?v28) rfl (by kernel_rfl) (by kernel_rfl) (by kernel_rfl) (fun _ _ _ h => h) (Or.inl ⟨by rfl, ?y28⟩) hHeld ?r28
            case y28 =>
              intro wv hSw
              (try dsimp only at hSw)
              go_simp
              all_goals (with_reducible rfl)
            simp only [Act.put, List.setIfInBounds_toArray, List.set_cons_zero, List.set_cons_succ]
            refine wpAnyH_take (i := 14) (oi := { dst := some 159, op := Op.move (Operand.tmp 11), type := 3, pos := "law.go:99", after := #[], guard := none }) (v := ?v29) rfl (by kernel_rfl) (by kernel_rfl) (by kernel_rfl) (fun _ _ _ h => h) (Or.inl ⟨by rfl, ?y29⟩) hHeld ?r29
            case y29 =>
              intro wv hSw
              (try dsimp only at hSw)
              go_simp
              all_goals (with_reducible rfl)
            simp only [Act.put, List.setIfInBounds_toArray, List.set_cons_zero, List.set_cons_succ]
            refine wpAnyH_take (i := 15) (oi := { dst := some 160, op := Op.indexAddr 41 (Operand.tmp 158) (Operand.tmp 159), type := 0, pos := "law.go:99", after := #[{ on := 13, ground := Ground.data }, { on := 14, ground := Ground.data }], guard := none }) (v := ?v30) rfl (by kernel_rfl) (by kernel_rfl) (by kernel_rfl) (fun _ _ _ h => h) (Or.inl ⟨by rfl, ?y30⟩) hHeld ?r30
            case y30 =>
              intro wv hSw
              (try dsimp only at hSw)
              go_simp
              all_goals (with_reducible rfl)
            simp only [Act.put, List.setIfInBounds_toArray, List.set_cons_zero, List.set_cons_succ]
            refine wpAnyH_take (i := 16) (oi := { dst := some 161, op := Op.load 42 (Operand.tmp 160), type := 42, pos := "law.go:99", after := #[{ on := 15, ground := Ground.data }], guard := none }) (v := ?v31) rfl (by kernel_rfl) (by kernel_rfl) (by kernel_rfl) (fun _ _ _ h => h) (Or.inl ⟨by rfl, ?y31⟩) hHeld ?r31
            case y31 =>
              intro wv hSw
              (try dsimp only at hSw)
              go_simp
              all_goals (with_reducible rfl)
            simp only [Act.put, List.setIfInBounds_toArray, List.set_cons_zero, List.set_cons_succ]
            refine wpAnyH_take (i := 17) (oi := { dst := some 162, op := Op.binOp BinOp.and 42 (Operand.tmp 161) (Operand.const (Value.int IntKind.u16 2)) 42, type := 42, pos := "law.go:99", after := #[{ on := 16, ground := Ground.data }], guard := none }) (v := ?v32) rfl (by kernel_rfl) (by kernel_rfl) (by kernel_rfl) (fun _ _ _ h => h) (Or.inl ⟨by rfl, ?y32⟩) hHeld ?r32
            case y32 =>
              intro wv hSw
              (try dsimp only at hSw)
              go_simp
              all_goals (with_reducible rfl)
            simp only [Act.put, List.setIfInBounds_toArray, List.set_cons_zero, List.set_cons_succ]
            refine wpAnyH_take (i := 18) (oi := { dst := some 163, op := Op.binOp BinOp.eql 42 (Operand.tmp 162) (Operand.const (Value.int IntKind.u16 0)) 42, type := 4, pos := "law.go:99", after := #[{ on := 17, ground := Ground.data }], guard := none }) (v := ?v33) rfl (by kernel_rfl) (by kernel_rfl) (by kernel_rfl) (fun _ _ _ h => h) (Or.inl ⟨by rfl, ?y33⟩) hHeld ?r33
            case y33 =>
              intro wv hSw
              (try dsimp only at hSw)
              go_simp
              all_goals (with_reducible rfl)
            simp only [Act.put, List.setIfInBounds_toArray, List.set_cons_zero, List.set_cons_succ]
            refine wpAnyH_ready (rs := [2]) (by kernel_rfl) (by simp) ?_
            refine AllReadyH.cons (o := { dst := some 147, op := Op.call { callee := Callee.value (Operand.func 13), args := #[Operand.tmp 146], argTypes := #[3] }, type := 35, pos := "law.go:99", after := #[{ on := 1, ground := Ground.data }], guard := none }) rfl (fun K hK => ?_) AllReadyH.nil
            go_simp
            refine (ID2.out _ _ _ (by assumption)).mono ?_
            rintro e w9 ⟨rfl, j0, HJ9⟩
            go_simp
            refine hK.out _ _ (by exact j0) (fun hHeld => ?_)
            clear hK K
            (try simp only [Act.put, List.setIfInBounds_toArray, List.set_cons_zero, List.set_cons_succ])
            refine wpAnyH_ready (rs := [9]) (by kernel_rfl) (by simp) ?_
            refine AllReadyH.cons (o := { dst := some 154, op := Op.call { callee := Callee.value (Operand.func 19), args := #[Operand.tmp 145, Operand.tmp 147, Operand.tmp 153], argTypes := #[24, 35, 4] }, type := 43, pos := "law.go:99", after := #[{ on := 0, ground := Ground.data }, { on := 2, ground := Ground.data }, { on := 8, ground := Ground.data }, { on := 2, ground := Ground.chain }], guard := none }) rfl (fun K hK => ?_) AllReadyH.nil
            go_simp
            refine (SH.out _ _ (by assumption)).mono ?_
            rintro e w9 ⟨rfl, j0, HJ9⟩
            go_simp
            refine hK.out _ _ (by exact j0) (fun hHeld => ?_)
            clear hK K
            (try simp only [Act.put, List.setIfInBounds_toArray, List.set_cons_zero, List.set_cons_succ])
            refine wpAnyH_ready (rs := [12]) (by kernel_rfl) (by simp) ?_
            refine AllReadyH.cons (o := { dst := some 157, op := Op.call { callee := Callee.value (Operand.func 13), args := #[Operand.tmp 156], argTypes := #[3] }, type := 35, pos := "law.go:99", after := #[{ on := 11, ground := Ground.data }, { on := 9, ground := Ground.chain }], guard := none }) rfl (fun K hK => ?_) AllReadyH.nil
            go_simp
            refine (ID2.out _ _ _ (by assumption)).mono ?_
            rintro e w9 ⟨rfl, j0, HJ9⟩
            go_simp
            refine hK.out _ _ (by exact j0) (fun hHeld => ?_)
            clear hK K
            (try simp only [Act.put, List.setIfInBounds_toArray, List.set_cons_zero, List.set_cons_succ])
            refine wpAnyH_ready (rs := [19]) (by kernel_rfl) (by simp) ?_
            refine AllReadyH.cons (o := { dst := some 164, op := Op.call { callee := Callee.value (Operand.func 20), args := #[Operand.tmp 155, Operand.tmp 157, Operand.tmp 163], argTypes := #[26, 35, 4] }, type := 43, pos := "law.go:99", after := #[{ on := 10, ground := Ground.data }, { on := 12, ground := Ground.data }, { on := 18, ground := Ground.data }, { on := 12, ground := Ground.chain }], guard := none }) rfl (fun K hK => ?_) AllReadyH.nil
            go_simp
            refine (RS.out _ _ (by assumption)).mono ?_
            rintro e w9 ⟨rfl, j0, HJ9⟩
            go_simp
            refine hK.out _ _ (by exact j0) (fun hHeld => ?_)
            clear hK K
            (try simp only [Act.put, List.setIfInBounds_toArray, List.set_cons_zero, List.set_cons_succ])
            refine wpAnyH_take (i := 20) (oi := { dst := some 165, op := Op.binOp BinOp.neq 43 (Operand.tmp 154) (Operand.tmp 164) 43, type := 4, pos := "law.go:99", after := #[{ on := 9, ground := Ground.data }, { on := 19, ground := Ground.data }], guard := none }) (v := ?v34) rfl (by kernel_rfl) (by kernel_rfl) (by kernel_rfl) (fun _ _ _ h => h) (Or.inl ⟨by rfl, ?y34⟩) hHeld ?r34
            case y34 =>
              intro wv hSw
              (try dsimp only at hSw)
              go_simp
              all_goals (with_reducible rfl)
            simp only [Act.put, List.setIfInBounds_toArray, List.set_cons_zero, List.set_cons_succ]
            refine wpAnyH_done (by kernel_rfl) ?_ _
            refine NoPanic.normal ?_
            clear hHeld
            go_wp2
            go_roundw
            case rel => exact ⟨j + 1, by omega, by go_num, l', by rw [HL'.out, showL_len]; exact HLL.out, HJ9.out⟩
            case measure => simp [intOf]; omega
          · have hjj := HM3.out j hj hlt
            have hcs2 : (((j : Int) < (len2 : Int)) ∧ j < len2 ∧ ¬ ((j : Int) < 100) ∧ ¬ j < 100) ∨ (¬ ((j : Int) < (len2 : Int)) ∧ ¬ j < len2) := by omega
            have hlb : (listR l true).length ≤ 1000000 := by
              have h1 := listR_le l true
              have h2 := HLL.out
              omega
            have HLB := Lib.hid hlb
            clear hlt hjj HM3 HM4 hM1 hM2 hlb
            rcases hcs2 with ⟨hq1, hq2, hq3, hq4⟩ | ⟨hq1, hq2⟩
            all_goals
              have C1 := Lib.hid F1.out.count
              go_wp2_with fail
              refine (C1.out).mono ?_
              rintro e w3 ⟨rfl, hb3⟩
              have F3 := Lib.hid (F1.out.keep hb3)
              clear hb3 C1 hq1 hq2
              have C3 := Lib.hid F3.out.refCount
              go_wp2_with fail
              refine (C3.out).mono ?_
              rintro e w4 ⟨rfl, hb4⟩
              have F4 := Lib.hid (F3.out.keep hb4)
              clear hb4 C3 F3 F1
              have C4 := Lib.hid (F4.out.list true)
              go_wp2_with fail
              refine (C4.out).mono ?_
              rintro e w5 ⟨A1, c1, rfl, hra, hb5⟩
              have F5 := Lib.hid (F4.out.keep hb5)
              have R5 := Lib.hid hra
              clear hb5 hra C4 F4
              have C5 := Lib.hid (F5.out.refList true)
              go_wp2_with fail
              refine (C5.out).mono ?_
              rintro e w6 ⟨A2, c2, rfl, hrb, hb6⟩
              have F6 := Lib.hid (F5.out.keep hb6)
              have C6 := Lib.hid (sameIds_any A1 A2 _ c1 c2 _ w6 (R5.out.keep hb6) hrb rfl HLB.out)
              clear hb6 hrb C5 F5 R5
              go_wp2_with fail
              refine (C6.out).mono ?_
              rintro e w7 ⟨rfl, hb7⟩
              have F7 := Lib.hid (F6.out.keep hb7)
              clear hb7
              go_wp2
              go_ret
              exact ⟨by trivial, F7.out.below⟩

end Go.Proofs.Ytnbgnjpjdplocaa.Q10
