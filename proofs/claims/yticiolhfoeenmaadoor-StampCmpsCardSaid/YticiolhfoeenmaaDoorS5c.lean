/-
  Layer 5, walks: the document's covering; copies; the same numbers; the document's plain vector.
-/
import Derived.Test.YticiolhfoeenmaaDoorS5b
namespace Go.Proofs.YticiolhfoeenmaaDoor.S5
open Go.RowKit Go.PlainAid M5
set_option linter.unusedVariables false

set_option maxRecDepth 100000 in
set_option maxHeartbeats 400000 in
theorem refCovers_any (A B : Option Addr) (n m c d : Nat) (v u : List Int) (w : World) (hv : Rd w A (is v)) (hu : Rd w B (is u)) (hn : v.length = n) (hm : u.length = m) (hle : n ≤ 1000000000) (hlm : m ≤ 1000000000) :
    Calls Tryd.prog 29 #[.slice A n c, .slice B m d] w fun e w' => e = .returned (.bool (coversL v u)) ∧ w = w' := by
  have HV := Lib.hid hv
  have HU := Lib.hid hu
  have HN := Lib.hid hn
  have HM := Lib.hid hm
  obtain ⟨x, hx1, hx2, hx3, hx4⟩ : ∃ x : Nat, x = max n m ∧ n ≤ x ∧ m ≤ x ∧ ((n < m ∧ x ≤ m) ∨ (m < n ∧ x ≤ n) ∨ (n ≤ m ∧ m ≤ n ∧ x ≤ n)) := ⟨max n m, rfl, by omega, by omega, by omega⟩
  have HX : Hid (x = max v.length u.length) := by rw [hn, hm]; exact hx1
  have hxl : x ≤ 1000000000 := by omega
  clear hv hu hn hm hx1
  rcases hx4 with ⟨h1, h2⟩ | ⟨h1, h2⟩ | ⟨h1, h2, h3⟩
  all_goals
    go_enter Tryd.func29, Tryd.ntmps29
    go_wp2
    go_loop [5] (fun i => ∃ k : Nat, k ≤ x ∧ i = .int .i64 ((k : Int) + 1) ∧ Hid (∀ j, j < k → u.getD j 0 ≤ v.getD j 0)) (fun i => x + 1 - (intOf i).toNat)
    case atStart => exact ⟨0, by omega, rfl, fun j h => by omega⟩
    case round =>
      obtain ⟨k, hk, rfl, HK⟩ := hrel
      by_cases hlt : k < x
      · have HA := Lib.hid (atL_succ v k)
        have HB := Lib.hid (atL_succ u k)
        go_wp2_with fail
        refine (refAt_any A n c v ((k : Int) + 1) _ HV.out HN.out hle (by omega)).mono ?_
        rintro e w1 ⟨rfl, rfl⟩
        go_wp2_with fail
        refine (refAt_any B m d u ((k : Int) + 1) _ HU.out HM.out hlm (by omega)).mono ?_
        rintro e w1 ⟨rfl, rfl⟩
        rw [HA.out, HB.out]
        obtain ⟨a, ha⟩ : ∃ a, a = v.getD k 0 := ⟨_, rfl⟩
        obtain ⟨b, hb⟩ : ∃ b, b = u.getD k 0 := ⟨_, rfl⟩
        rw [← ha, ← hb]
        by_cases hab : a < b
        · have HF := Lib.hid (covers_not (v := v) (w := u) (k := k) (by rw [← ha, ← hb]; exact hab))
          clear ha hb
          go_wp2
          go_ret
          exact ⟨by rw [HF.out]; rfl, rfl⟩
        · have HF : Hid (∀ j, j < k + 1 → u.getD j 0 ≤ v.getD j 0) := all_on HK.out (by rw [← ha, ← hb]; omega)
          clear ha hb
          go_wp2
          go_round
          case rel => exact ⟨k + 1, by omega, by go_num, HF⟩
          case measure => simp [intOf]; omega
      · obtain rfl : k = x := by omega
        have HF := Lib.hid (covers_done (v := v) (w := u) (by rw [← HX.out]; exact HK.out))
        go_wp2
        go_ret
        exact ⟨by rw [HF.out]; rfl, rfl⟩

theorem own_full {w : World} {base e g n : Nat} {xs : List Value} (h : w.ownsRow base e 1 (.slice (some ⟨g, 0, none⟩) n n) n xs) : w.heap[g]? = some (.cells xs.toArray e (0, 0)) ∧ base ≤ g ∧ n ≤ maxLen ∧ xs.length = n := by
  have hl : xs.length = n := by simpa using h.1
  rcases h.2 with ⟨h', _⟩ | ⟨g', cap', cur, h', hb, hg, _, hcm, hcs, htake⟩
  · simp at h'
  · simp only [Value.slice.injEq, Option.some.injEq, Addr.mk.injEq, and_true, true_and] at h'
    obtain ⟨rfl, rfl⟩ := h'
    have : cur.toList = xs := by rw [← htake]; exact (List.take_of_length_le (by simp at hcs ⊢; omega)).symm
    refine ⟨?_, hb, hcm, hl⟩
    rw [hg, ← this]
theorem own_of_full {w : World} {base e g n : Nat} {xs : List Value} (hg : w.heap[g]? = some (.cells xs.toArray e (0, 0))) (hb : base ≤ g) (hm : n ≤ maxLen) (hl : xs.length = n) : w.ownsRow base e 1 (.slice (some ⟨g, 0, none⟩) n n) n xs :=
  ⟨by simpa using hl, .inr ⟨g, n, xs.toArray, rfl, hb, hg, Nat.le_refl _, hm, by simpa using hl, by rw [Nat.mul_one, ← hl]; simp⟩⟩
theorem splice_pad (v : List Int) (m : Nat) : splice (List.replicate m (Value.int .i64 0)) 0 (is (v.take m)) = is (padN v m) := by
  rw [padN_eq]
  unfold splice is
  simp only [List.take_zero, List.nil_append, List.map_append, List.map_replicate, List.length_map, List.length_take, Nat.zero_add]
  congr 1
  rw [List.drop_replicate]
  congr 1
  omega
theorem size_int : (Tryd.prog.info? 3).map (·.size) = some 1 := by kernel_rfl

set_option maxRecDepth 100000 in
set_option maxHeartbeats 400000 in
theorem copied_any (A : Option Addr) (n c m : Nat) (v : List Int) (w : World) (hr : Rd w A (is v)) (hn : v.length = n) (hle : n ≤ 1000000000) (hm : m ≤ 1000000000) :
    Calls Tryd.prog 46 #[.slice A n c, .int .i64 (m : Int)] w fun e w' => ∃ g, e = .returned (.slice (some ⟨g, 0, none⟩) m m) ∧ w'.ownsRow w.heap.size 3 1 (.slice (some ⟨g, 0, none⟩) m m) m (is (padN v m)) ∧ Below w.heap.size w w' := by
  obtain ⟨i0, hi0, hz0, hz1, hz2⟩ := info_parts info_int
  have HR := Lib.hid hr
  have HN := Lib.hid hn
  have hsz := size_int
  have HSZ := Lib.hid hsz
  have hcs : (is (v.take m)).length = Nat.min n m := by rw [is_len, List.length_take, hn]; exact Nat.min_comm _ _
  have HCS := Lib.hid hcs
  have h1c : ∀ x ∈ is (v.take m), x.oneCell' = true := by
    intro x hx
    obtain ⟨y, _, rfl⟩ := List.mem_map.1 hx
    rfl
  have H1C := Lib.hid h1c
  clear hr hn hsz hcs h1c
  go_enter Tryd.func46, Tryd.ntmps46
  go_wp2_with (at_make; refine wpList_make_full _ rfl _ _ 61 rfl w.heap.size 3 i0 (.int .i64 0) 1 Tryd.underlying61 hi0 hz0 hz1 _ _ _ _ m rfl rfl (by simp) (by simp) ?c1 ?c2 ?c3 ?_)
  case c1 => rw [hz2]; omega
  case c2 => unfold maxLen; omega
  case c3 => exact Nat.le_refl _
  intro w1 ho hg
  have hb : Below w.heap.size w w1 := (Below.refl _ _).grown hg (Nat.le_refl _) (fun k h => by simp at h)
  rw [toList_madeCells_one] at ho
  obtain ⟨hh, hbg, hml, hll⟩ := own_full ho
  have hr1 := HR.out.keep hb
  have hpos : 0 < (is (v.take m)).length → (some (⟨w.heap.size, 0, none⟩ : Addr) = some ⟨w.heap.size, 0, none⟩ ∧ ∃ ad, A = some ad ∧ ∀ j y, (is (v.take m))[j]? = some y → w1.cell? (ad.add j) = some y) := by
    intro hp
    have hv0 : 0 < v.length := by rw [is_len, List.length_take] at hp; omega
    rcases hr1 with h0 | ⟨b, off, rfl, hbl, hc⟩
    · exfalso
      have := congrArg List.length h0
      rw [is_len, List.length_nil] at this; omega
    · refine ⟨rfl, _, rfl, fun j y hy => ?_⟩
      have hj : j < v.length := by
        have := (List.getElem?_eq_some_iff.1 hy).1
        rw [is_len, List.length_take] at this; omega
      rw [add_none, hc j (by rw [is_len]; exact hj)]
      unfold is at hy ⊢
      rw [List.getElem?_map, List.getElem?_take] at hy
      split at hy
      · rw [List.getElem?_eq_getElem hj] at hy
        simpa using hy
      · cases hy
  have HP := Lib.hid hpos
  have HH := Lib.hid hh
  have HBB := Lib.hid hb
  clear hpos hh hb ho hg hr1 hll
  go_wp2_with (with_reducible refine wpList_copy_splice rfl (.tmp 8) (.tmp 9) 61 61 rfl 3 Tryd.underlying61 HSZ.out _ _ _ _ _ _ rfl rfl w.heap.size 0 _ _ HH.out (is (v.take m)) HCS.out HP.out ?d1 H1C.out w.heap.size w HBB.out (Nat.le_refl _) ?_)
  case d1 => rw [HCS.out]; exact Nat.min_le_right _ _
  intro w2 hg2 hb2
  go_wp2
  go_ret
  refine ⟨_, rfl, own_of_full ?_ (Nat.le_refl _) hml (by rw [is_len, padN_len]), hb2⟩
  rw [← splice_pad]
  exact hg2.out

end Go.Proofs.YticiolhfoeenmaaDoor.S5
