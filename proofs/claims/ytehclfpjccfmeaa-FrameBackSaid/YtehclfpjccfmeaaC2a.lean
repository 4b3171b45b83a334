/-
  Layer 2, walks: a bit that falls out; the table.
-/
import Derived.Test.YtehclfpjccfmeaaM2
import Derived.Test.YtehclfpjccfmeaaTx
import Derived.WalkKit
import Derived.WalkSpells
import Derived.WalkLawsBesides
import Derived.Lib.Hide
import Derived.Handy
import Derived.Laws.OwnMore
namespace Go.Proofs.Ytehclfpjccfmeaa.C2
open Go.RowKit M2
set_option linter.unusedVariables false

theorem step_odd {c : Nat} (h : c < 4294967296) (ho : c % 2 = 1) : bits .xor .u32 ((c : Int) / 2) 3988292384 = ((bit1 c : Nat) : Int) := by
  have := u32_xor_nat (c / 2) 3988292384 (by omega) (by omega)
  unfold bit1; rw [if_pos ho]; unfold poly; simpa using this
theorem step_ev {c : Nat} (ho : ¬ c % 2 = 1) : (c : Int) / 2 = ((bit1 c : Nat) : Int) := by
  unfold bit1; rw [if_neg ho]; simp
theorem and_one {c : Nat} (h : c < 4294967296) : bits .and .u32 (c : Int) 1 = ((c % 2 : Nat) : Int) := by
  have := u32_and_nat c 1 h (by omega)
  rw [Nat.and_one_is_mod] at this
  simpa using this

set_option maxRecDepth 100000 in
set_option maxHeartbeats 400000 in
theorem refStep_any (c : Nat) (hc : c < 4294967296) (w : World) :
    Calls Try.prog 30 #[.int .u32 (c : Int)] w fun e w' => e = .returned (.int .u32 ((bit1 c : Nat) : Int)) ∧ w = w' := by
  by_cases ho : c % 2 = 1
  · have h1 : ((c : Int) % 2 == 1) = true := by simp; omega
    have HF := Lib.hid (step_odd hc ho)
    clear ho
    go_enter Try.func30, Try.ntmps30
    go_wp2
    go_ret
    exact ⟨by rw [HF.out]; rfl, rfl⟩
  · have h1 : ((c : Int) % 2 == 1) = false := by simp; omega
    have HF := Lib.hid (step_ev ho)
    clear ho
    go_enter Try.func30, Try.ntmps30
    go_wp2
    go_ret
    exact ⟨by rw [HF.out]; rfl, rfl⟩

end Go.Proofs.Ytehclfpjccfmeaa.C2
