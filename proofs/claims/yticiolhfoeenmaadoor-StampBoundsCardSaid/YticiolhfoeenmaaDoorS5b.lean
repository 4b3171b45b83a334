/-
  Layer 5, walks: whether one vector covers another.
-/
import Derived.Test.YticiolhfoeenmaaDoorS5a
namespace Go.Proofs.YticiolhfoeenmaaDoor.S5
open Go.RowKit Go.PlainAid M5
set_option linter.unusedVariables false

theorem all_on {v w : List Int} {k : Nat} (h : ∀ j, j < k → w.getD j 0 ≤ v.getD j 0) (hk : w.getD k 0 ≤ v.getD k 0) : ∀ j, j < k + 1 → w.getD j 0 ≤ v.getD j 0 := by
  intro j hj
  by_cases e : j = k
  · rw [e]; exact hk
  · exact h j (by omega)

set_option maxRecDepth 100000 in
set_option maxHeartbeats 400000 in
theorem covers_any (A B : Option Addr) (n m c d : Nat) (v u : List Int) (w : World) (hv : Rd w A (is v)) (hu : Rd w B (is u)) (hn : v.length = n) (hm : u.length = m) (hle : n ≤ 1000000000) (hlm : m ≤ 1000000000) :
    Calls Tryd.prog 28 #[.slice A n c, .slice B m d] w fun e w' => e = .returned (.bool (coversL v u)) ∧ w = w' := by
  have HV := Lib.hid hv
  have HU := Lib.hid hu
  have HN := Lib.hid hn
  have HM := Lib.hid hm
  obtain ⟨x, hx1, hx2, hx3, hx4⟩ : ∃ x : Nat, x = max n m ∧ n ≤ x ∧ m ≤ x ∧ ((n < m ∧ x ≤ m) ∨ (m < n ∧ x ≤ n) ∨ (n ≤ m ∧ m ≤ n ∧ x ≤ n)) := ⟨max n m, rfl, by omega, by omega, by omega⟩
  have HX : Hid (x = max v.length u.length) := by rw [hn, hm]; exact hx1
  have hxl : x ≤ 1000000000 := by omega
  clear hv hu hn hm hx1
  rcases hx4 with ⟨h1, h2⟩ | ⟨h1, h2⟩ | ⟨h1, h2, h3⟩
  all_goals
    go_enter Tryd.func28, Tryd.ntmps28
    go_wp2
    go_loop [5, 11] (fun _ i => ∃ k : Nat, k ≤ x ∧ i = .int .i64 (k : Int) ∧ Hid (∀ j, j < k → u.getD j 0 ≤ v.getD j 0)) (fun _ i => x - (intOf i).toNat)
    case atStart => exact ⟨0, by omega, rfl, fun j h => by omega⟩
    case round =>
      obtain ⟨k, hk, rfl, HK⟩ := hrel
      by_cases hlt : k < x
      · have HA := Lib.hid (atL_succ v k)
        have HB := Lib.hid (atL_succ u k)
        go_wp2_with fail
        refine (prAt_any A n c v ((k : Int) + 1) _ HV.out HN.out hle (by omega)).mono ?_
        rintro e w1 ⟨rfl, rfl⟩
        go_wp2_with fail
        refine (prAt_any B m d u ((k : Int) + 1) _ HU.out HM.out hlm (by omega)).mono ?_
        rintro e w1 ⟨rfl, rfl⟩
        rw [HA.out, HB.out]
        obtain ⟨a, ha⟩ : ∃ a, a = v.getD k 0 := ⟨_, rfl⟩
        obtain ⟨b, hb⟩ : ∃ b, b = u.getD k 0 := ⟨_, rfl⟩
        rw [← ha, ← hb]
        by_cases hab : a < b
        · have HF := Lib.hid (covers_not (v := v) (w := u) (k := k) (by rw [← ha, ← hb]; exact hab))
          clear ha hb
          go_wp2
          go_ret
          exact ⟨by rw [HF.out]; rfl, rfl⟩
        · have HF : Hid (∀ j, j < k + 1 → u.getD j 0 ≤ v.getD j 0) := all_on HK.out (by rw [← ha, ← hb]; omega)
          clear ha hb
          go_wp2
          go_round
          case rel => exact ⟨k + 1, by omega, by go_num, HF⟩
          case measure => simp [intOf]; omega
      · obtain rfl : k = x := by omega
        have HF := Lib.hid (covers_done (v := v) (w := u) (by rw [← HX.out]; exact HK.out))
        go_wp2
        go_ret
        exact ⟨by rw [HF.out]; rfl, rfl⟩

end Go.Proofs.YticiolhfoeenmaaDoor.S5
