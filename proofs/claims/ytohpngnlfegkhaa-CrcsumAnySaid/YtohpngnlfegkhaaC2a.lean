/-
  Layer 2, walks: a bit that falls out; the table.
-/
import Derived.Test.YtohpngnlfegkhaaM2
import Derived.Test.YtohpngnlfegkhaaTx
import Derived.WalkKit
import Derived.WalkSpells
import Derived.WalkLawsBesides
import Derived.Lib.Hide
import Derived.Handy
import Derived.Laws.OwnMore
namespace Go.Proofs.Ytohpngnlfegkhaa.C2
open Go.RowKit M2

theorem step_odd {c : Nat} (h : c < 4294967296) (ho : c % 2 = 1) : bits .xor .u32 ((c : Int) / 2) 3988292384 = ((bit1 c : Nat) : Int) := by
  have := u32_xor_nat (c / 2) 3988292384 (by omega) (by omega)
  unfold bit1; rw [if_pos ho]; unfold poly; simpa using this
theorem step_ev {c : Nat} (ho : ¬ c % 2 = 1) : (c : Int) / 2 = ((bit1 c : Nat) : Int) := by
  unfold bit1; rw [if_neg ho]; simp
theorem and_one {c : Nat} (h : c < 4294967296) : bits .and .u32 (c : Int) 1 = ((c % 2 : Nat) : Int) := by
  have := u32_and_nat c 1 h (by omega)
  rw [Nat.and_one_is_mod] at this
  simpa using this

set_option maxRecDepth 100000 in
set_option maxHeartbeats 400000 in
theorem refStep_any (c : Nat) (hc : c < 4294967296) (w : World) :
    Calls Try.prog 19 #[.int .u32 (c : Int)] w fun e w' => e = .returned (.int .u32 ((bit1 c : Nat) : Int)) ∧ w = w' := by
  by_cases ho : c % 2 = 1
  · have h1 : ((c : Int) % 2 == 1) = true := by simp; omega
    have HF := Lib.hid (step_odd hc ho)
    clear ho
    go_enter Try.func19, Try.ntmps19
    go_wp2
    go_ret
    exact ⟨by rw [HF.out]; rfl, rfl⟩
  · have h1 : ((c : Int) % 2 == 1) = false := by simp; omega
    have HF := Lib.hid (step_ev ho)
    clear ho
    go_enter Try.func19, Try.ntmps19
    go_wp2
    go_ret
    exact ⟨by rw [HF.out]; rfl, rfl⟩

set_option maxRecDepth 100000 in
set_option maxHeartbeats 400000 in
theorem fallOut_any (c : Nat) (hc : c < 4294967296) (w : World) :
    Calls Try.prog 18 #[.int .u32 (c : Int)] w fun e w' => e = .returned (.int .u32 ((s8 c : Nat) : Int)) ∧ w = w' := by
  go_enter Try.func18, Try.ntmps18
  go_wp2
  go_loop [0, 4] (fun v i => ∃ k : Nat, k ≤ 8 ∧ i = .int .i64 (k : Int) ∧ v = .int .u32 ((fall k c : Nat) : Int)) (fun _ i => 8 - (intOf i).toNat)
  case atStart => exact ⟨0, by omega, rfl, rfl⟩
  case round =>
    obtain ⟨k, hk, rfl, rfl⟩ := hrel
    by_cases hlt : k < 8
    · have hl := fall_lt k hc
      have ha := and_one hl
      have HS := Lib.hid (fall_succ k c)
      generalize fall k c = d at hl ha HS
      by_cases ho : d % 2 = 1
      · have h1 : (((d % 2 : Nat) : Int) == 1) = true := by simp; omega
        have HF := Lib.hid (step_odd hl ho)
        clear ho
        go_wp2
        go_round
        case rel => exact ⟨k + 1, by omega, by go_num, by rw [HS.out, ← HF.out]⟩
        case measure => simp [intOf]; omega
      · have h1 : (((d % 2 : Nat) : Int) == 1) = false := by simp; omega
        have HF := Lib.hid (step_ev ho)
        clear ho
        go_wp2
        go_round
        case rel => exact ⟨k + 1, by omega, by go_num, by rw [HS.out, ← HF.out]⟩
        case measure => simp [intOf]; omega
    · obtain rfl : k = 8 := by omega
      go_wp2
      go_ret
      exact ⟨rfl, rfl⟩

end Go.Proofs.Ytohpngnlfegkhaa.C2
