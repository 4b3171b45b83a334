/-
  Layer 5, walks: plain vectors, what is put together by a function, merged and met ones.
-/
import Derived.Test.YticiolhfoeenmaaDoorS5c
namespace Go.Proofs.YticiolhfoeenmaaDoor.S5
open Go.RowKit Go.PlainAid M5
set_option linter.unusedVariables false

theorem is_take (v : List Int) (n : Nat) : is (v.take n) = (is v).take n := by simp [is]
theorem rd_take {w : World} {A : Option Addr} {v : List Int} (h : Rd w A (is v)) (n : Nat) : Rd w A (is (v.take n)) := by
  rcases h with h0 | ⟨b, off, e, hb, hc⟩
  · left
    rw [is_take, h0]; simp
  · right
    refine ⟨b, off, e, hb, fun j hj => ?_⟩
    have hj2 : j < (is v).length := by rw [is_take, List.length_take] at hj; omega
    rw [hc j hj2]
    simp only [is_take, List.getElem_take]

set_option maxRecDepth 100000 in
set_option maxHeartbeats 400000 in
theorem plain_any (A : Option Addr) (n c : Nat) (v : List Int) (w : World) (hr : Rd w A (is v)) (hn : v.length = n) (hle : n ≤ 1000000000) :
    Calls Tryd.prog 32 #[.slice A n c] w fun e w' => ∃ B k d, e = .returned (.slice B k d) ∧ Rd w' B (is (plainL v)) ∧ (plainL v).length = k ∧ Below w.heap.size w w' := by
  subst hn
  have HR := Lib.hid hr
  have hend := endN_le v v.length
  have HP : Hid (padN v (endN v v.length) = plainL v) := by
    show _ = _
    unfold plainL; rw [padN_eq]
    have : endN v v.length - v.length = 0 := by omega
    rw [this]; simp
  have hl := plainL_len v
  obtain ⟨m, hm⟩ : ∃ m, m = endN v v.length := ⟨_, rfl⟩
  have HE : Hid (((endN v v.length : Nat) : Int) = (m : Int)) := by show _ = _; rw [hm]
  rw [← hm] at HP hend hl
  have HL := Lib.hid hl
  clear hr hm hl
  go_enter Tryd.func32, Tryd.ntmps32
  go_wp2_with fail
  refine (end_any A _ c v _ HR.out rfl hle).mono ?_
  rintro e w1 ⟨rfl, rfl⟩
  rw [HE.out]
  go_wp2_with fail
  refine (copied_any A _ c m v _ HR.out rfl hle (by omega)).mono ?_
  rintro e w1 ⟨g, rfl, ho, hb⟩
  obtain ⟨B, d, hv, hrd, _⟩ := Rd.of_own ho
  injection hv with hv1 hv2 hv3
  rw [HP.out, ← hv1] at hrd
  have HRD := Lib.hid hrd
  clear hrd ho hv1 hv3
  go_wp2
  go_ret
  exact ⟨_, _, _, rfl, HRD.out, HL.out, hb⟩

set_option maxRecDepth 100000 in
set_option maxHeartbeats 400000 in
theorem refPlain_any (A : Option Addr) (n c : Nat) (v : List Int) (w : World) (hr : Rd w A (is v)) (hn : v.length = n) (hnc : n ≤ c) (hcm : c ≤ 9223372036854775807) (hle : n ≤ 1000000000) :
    Calls Tryd.prog 33 #[.slice A n c] w fun e w' => ∃ k, e = .returned (.slice A k c) ∧ Rd w A (is (plainL v)) ∧ (plainL v).length = k ∧ w = w' := by
  subst hn
  have HR := Lib.hid hr
  have HP := Lib.hid (rd_take hr (endN v v.length))
  obtain ⟨m, hm⟩ : ∃ m, m = endN v v.length := ⟨_, rfl⟩
  have HL : Hid ((plainL v).length = m) := by rw [hm, plainL_len]; rfl
  have HM := Lib.hid hm
  have hA : A = none → v.length = 0 := by
    intro h0
    rcases hr with h | ⟨b, off, e, _⟩
    · have := congrArg List.length h; rw [is_len] at this; simpa using this
    · rw [h0] at e; cases e
  have HAN := Lib.hid hA
  clear hr hm hA
  go_enter Tryd.func33, Tryd.ntmps33
  go_wp2
  go_loop [3] (fun i => ∃ k : Nat, k ≤ v.length ∧ i = .int .i64 (k : Int) ∧ Hid (m = endN v k)) (fun i => (intOf i).toNat)
  case atStart => exact ⟨v.length, Nat.le_refl _, rfl, HM⟩
  case round =>
    obtain ⟨k, hk, rfl, HK⟩ := hrel
    rcases Nat.eq_zero_or_pos k with rfl | hk0
    · have HZ : Hid (m = 0) := HK
      clear hk
      go_wp2
      go_ret
      exact ⟨_, rfl, by unfold plainL; exact HP.out, by rw [HL.out, HZ.out], rfl⟩
    · obtain ⟨j, rfl⟩ : ∃ j, k = j + 1 := ⟨k - 1, by omega⟩
      obtain ⟨b, off, x, rfl, hb, hc, HX⟩ := rd_at HR.out (k := j) (by omega)
      have hcast : ((j + 1 : Nat) : Int) = (j : Int) + 1 := by omega
      by_cases h0 : x = 0
      · subst h0
        have HE : Hid (m = endN v j) := by have := HK.out; rw [endN_on HX.out] at this; exact this
        clear HK hk0
        rw [hcast]
        clear hcast
        go_wp2
        go_round
        case rel => exact ⟨j, by omega, by go_num, HE⟩
        case measure => simp [intOf]
      · have HE : Hid (m = j + 1) := by have := HK.out; rw [endN_here (by rw [HX.out]; exact h0)] at this; exact this
        have h00 : (x == 0) = false := by simpa using h0
        clear h0 HK hk0
        rw [hcast]
        clear hcast
        go_wp2
        go_ret
        exact ⟨_, rfl, by unfold plainL; exact HP.out, by rw [HL.out, HE.out], rfl⟩

end Go.Proofs.YticiolhfoeenmaaDoor.S5
