/-
  Layer 5, walks: one number of a vector, its end, whether one covers another.
-/
import Derived.Test.YticiolhfoeenmaaDoorM5b
import Derived.Test.YticiolhfoeenmaaDoorSt
import Derived.OwnWalk
import Derived.Laws.CopyOwn
namespace Go.Proofs.YticiolhfoeenmaaDoor.S5
open Go.RowKit Go.PlainAid M5
set_option linter.unusedVariables false

def is (l : List Int) : List Value := l.map (Value.int .i64)
theorem is_len (l : List Int) : (is l).length = l.length := by simp [is]
theorem is_get {zs : List Int} {k : Nat} (h : k < (is zs).length) : (is zs)[k] = .int .i64 (zs.getD k 0) := by
  have hk : k < zs.length := by rwa [is_len] at h
  have e : (is zs)[k] = .int .i64 zs[k] := by simp [is]
  rw [e, List.getD_eq_getElem?_getD, List.getElem?_eq_getElem hk]; rfl
theorem is_snoc (l : List Int) (x : Int) : is (l ++ [x]) = is l ++ [.int .i64 x] := by simp [is]
theorem rd_at {w : World} {A : Option Addr} {v : List Int} (h : Rd w A (is v)) {k : Nat} (hk : k < v.length) :
    ∃ b off x, A = some ⟨b, off, none⟩ ∧ b < w.heap.size ∧ w.cell? ⟨b, off + k, none⟩ = some (.int .i64 x) ∧ Hid (v.getD k 0 = x) := by
  obtain ⟨b, off, e, hb, hc⟩ := h.get (k := k) (by rw [is_len]; exact hk)
  rw [is_get] at hc
  exact ⟨b, off, _, e, hb, hc, rfl⟩

set_option maxRecDepth 100000 in
set_option maxHeartbeats 400000 in
theorem at_any (A : Option Addr) (n c : Nat) (v : List Int) (r : Int) (w : World) (hr : Rd w A (is v)) (hn : v.length = n) (hle : n ≤ 1000000000) (h1 : r ≤ 9223372036854775807) :
    Calls Tryd.prog 48 #[.slice A n c, .int .i64 r] w fun e w' => e = .returned (.int .i64 (atL v r)) ∧ w = w' := by
  subst hn
  by_cases h0 : r < 1
  · have HF := Lib.hid (atL_out (v := v) (.inl h0))
    clear hr
    go_enter Tryd.func48, Tryd.ntmps48
    go_wp2
    go_ret
    exact ⟨by rw [HF.out]; rfl, rfl⟩
  · obtain ⟨k, rfl⟩ : ∃ k : Nat, r = (k : Int) + 1 := ⟨(r - 1).toNat, by omega⟩
    by_cases h2 : k < v.length
    · have HF := Lib.hid (atL_succ v k)
      obtain ⟨b, off, x, rfl, hb, hc, HX⟩ := rd_at hr h2
      have h3 : ¬ (v.length : Int) < (k : Int) + 1 := by omega
      have h4 : (k : Int) + 1 - 1 = (k : Int) := by omega
      clear hr
      go_enter Tryd.func48, Tryd.ntmps48
      go_wp2
      go_ret
      exact ⟨by rw [HF.out, HX.out]; rfl, rfl⟩
    · have h2' : (v.length : Int) < (k : Int) + 1 := by omega
      have HF := Lib.hid (atL_out (v := v) (.inr h2'))
      clear hr
      go_enter Tryd.func48, Tryd.ntmps48
      go_wp2
      go_ret
      exact ⟨by rw [HF.out]; rfl, rfl⟩

set_option maxRecDepth 100000 in
set_option maxHeartbeats 400000 in
theorem refAt_any (A : Option Addr) (n c : Nat) (v : List Int) (r : Int) (w : World) (hr : Rd w A (is v)) (hn : v.length = n) (hle : n ≤ 1000000000) (h1 : r ≤ 9223372036854775807) :
    Calls Tryd.prog 27 #[.slice A n c, .int .i64 r] w fun e w' => e = .returned (.int .i64 (atL v r)) ∧ w = w' := by
  subst hn
  by_cases h0 : r < 1
  · have HF := Lib.hid (atL_out (v := v) (.inl h0))
    clear hr
    go_enter Tryd.func27, Tryd.ntmps27
    go_wp2
    go_ret
    exact ⟨by rw [HF.out]; rfl, rfl⟩
  · obtain ⟨k, rfl⟩ : ∃ k : Nat, r = (k : Int) + 1 := ⟨(r - 1).toNat, by omega⟩
    by_cases h2 : k < v.length
    · have HF := Lib.hid (atL_succ v k)
      obtain ⟨b, off, x, rfl, hb, hc, HX⟩ := rd_at hr h2
      have h3 : ¬ (v.length : Int) < (k : Int) + 1 := by omega
      have h4 : (k : Int) + 1 - 1 = (k : Int) := by omega
      clear hr
      go_enter Tryd.func27, Tryd.ntmps27
      go_wp2
      go_ret
      exact ⟨by rw [HF.out, HX.out]; rfl, rfl⟩
    · have h2' : (v.length : Int) < (k : Int) + 1 := by omega
      have HF := Lib.hid (atL_out (v := v) (.inr h2'))
      clear hr
      go_enter Tryd.func27, Tryd.ntmps27
      go_wp2
      go_ret
      exact ⟨by rw [HF.out]; rfl, rfl⟩

set_option maxRecDepth 100000 in
set_option maxHeartbeats 400000 in
theorem prAt_any (A : Option Addr) (n c : Nat) (v : List Int) (r : Int) (w : World) (hr : Rd w A (is v)) (hn : v.length = n) (hle : n ≤ 1000000000) (h1 : r ≤ 9223372036854775807) :
    Calls Tryd.prog 26 #[.slice A n c, .int .i64 r] w fun e w' => e = .returned (.int .i64 (atL v r)) ∧ w = w' := by
  have HR := Lib.hid hr
  have HN := Lib.hid hn
  clear hr hn
  go_enter Tryd.func26, Tryd.ntmps26
  go_wp2_with fail
  refine (at_any A n c v r _ HR.out HN.out hle h1).mono ?_
  rintro e w1 ⟨rfl, rfl⟩
  go_wp2
  go_ret
  exact ⟨rfl, rfl⟩

theorem endN_on {v : List Int} {k : Nat} (h : v.getD k 0 = 0) : endN v (k + 1) = endN v k := by simp only [endN]; rw [if_pos h]
theorem endN_here {v : List Int} {k : Nat} (h : v.getD k 0 ≠ 0) : endN v (k + 1) = k + 1 := by simp only [endN]; rw [if_neg h]

set_option maxRecDepth 100000 in
set_option maxHeartbeats 400000 in
theorem end_any (A : Option Addr) (n c : Nat) (v : List Int) (w : World) (hr : Rd w A (is v)) (hn : v.length = n) (hle : n ≤ 1000000000) :
    Calls Tryd.prog 47 #[.slice A n c] w fun e w' => e = .returned (.int .i64 ((endN v v.length : Nat) : Int)) ∧ w = w' := by
  subst hn
  have HR := Lib.hid hr
  obtain ⟨m, hm⟩ : ∃ m, m = endN v v.length := ⟨_, rfl⟩
  rw [← hm]
  have HM := Lib.hid hm
  clear hr hm
  go_enter Tryd.func47, Tryd.ntmps47
  go_wp2
  go_loop [3] (fun i => ∃ k : Nat, k ≤ v.length ∧ i = .int .i64 (k : Int) ∧ Hid (m = endN v k)) (fun i => (intOf i).toNat)
  case atStart => exact ⟨v.length, Nat.le_refl _, rfl, HM⟩
  case round =>
    obtain ⟨k, hk, rfl, HK⟩ := hrel
    rcases Nat.eq_zero_or_pos k with rfl | hk0
    · have HZ : Hid (m = 0) := HK
      go_wp2
      go_ret
      exact ⟨by rw [HZ.out]; rfl, rfl⟩
    · obtain ⟨j, rfl⟩ : ∃ j, k = j + 1 := ⟨k - 1, by omega⟩
      obtain ⟨b, off, x, rfl, hb, hc, HX⟩ := rd_at HR.out (k := j) (by omega)
      have hcast : ((j + 1 : Nat) : Int) = (j : Int) + 1 := by omega
      by_cases h0 : x = 0
      · subst h0
        have HE : Hid (m = endN v j) := by have := HK.out; rw [endN_on HX.out] at this; exact this
        clear HK hk0
        rw [hcast]
        clear hcast
        go_wp2
        go_round
        case rel => exact ⟨j, by omega, by go_num, HE⟩
        case measure => simp [intOf]
      · have HE : Hid (m = j + 1) := by have := HK.out; rw [endN_here (by rw [HX.out]; exact h0)] at this; exact this
        have h00 : (x == 0) = false := by simpa using h0
        clear h0 HK hk0
        rw [hcast]
        clear hcast
        go_wp2
        go_ret
        exact ⟨by rw [HE.out]; go_num, rfl⟩

end Go.Proofs.YticiolhfoeenmaaDoor.S5
