/-
  Layer 1, walks: Nat of the program and of the document.
-/
import Derived.Test.YtehclfpjccfmeaaV1a
import Derived.Handy
namespace Go.Proofs.Ytehclfpjccfmeaa.V1
open Go.RowKit

/-- A1's answer. -/
def natR (n : Int) : List UInt8 × Int := if n < 0 then ([], 1) else (natB n.toNat, 0)

theorem byte_hi' (m : Nat) : (Value.int .u8 (128 + (m : Int) % 128)) = Value.int .u8 ((m : Int) % 128 + 128) := by
  rw [Int.add_comm]

set_option maxRecDepth 100000 in
set_option maxHeartbeats 400000 in
theorem refNat_any (n : Int) (hn : n ≤ 9223372036854775807) (w : World) :
    Calls Try.prog 32 #[.int .i64 n] w fun e w' => e = .returned (.tuple #[.string (bs (natR n).1), .int .i64 (natR n).2]) ∧ Below w.heap.size w w' := by
  by_cases h0 : n < 0
  · have hfin : natR n = ([], 1) := by unfold natR; rw [if_pos h0]
    have HF := Lib.hid hfin
    clear hfin
    go_enter Try.func32, Try.ntmps32
    go_wp2
    go_ret2
    exact ⟨by rw [HF.out]; rfl, Below.refl _ _⟩
  · obtain ⟨n, rfl⟩ := Int.eq_ofNat_of_zero_le (show 0 ≤ n by omega)
    have hfin : natR (n : Int) = (natB n, 0) := by unfold natR; rw [if_neg h0]; simp
    have HF := Lib.hid hfin
    clear hfin
    obtain ⟨i0, hi0, hz0, hz1, hz2⟩ := info_parts info_u8
    have h0 : AppRel w.heap.size 0 [] n w (.slice none 0 0) (.int .i64 (n : Int)) w := ⟨n, 0, [], rfl, Nat.le_refl _, rfl, World.ownsRow_nil _ _ _ _, rfl, Below.refl _ _⟩
    have H0 := Lib.hid h0
    clear h0
    go_enter Try.func32, Try.ntmps32
    go_wp2
    go_loopw [0, 4] (fun i v wr => AppRel w.heap.size 0 [] n w v i wr) (fun i _ _ => (intOf i).toNat)
    case atStart => exact H0.out
    case round =>
      obtain ⟨m, k', xs', rfl, hmn, hx, ho, hl, hbw⟩ := hrel
      have hB' : w.heap.size ≤ wr.heap.size := hbw.size
      have hl9 := natB_len9 (n := n) (by omega)
      have HX := Lib.hid hx
      have HL := Lib.hid hl
      have hk' : k' ≤ 9 := by omega
      clear hx hl hl9 H0
      by_cases h128 : 128 ≤ m
      · go_wp2_with (at_builtin; refine wpList_append_own _ rfl (.tmp 9) (.tmp 14) 57 rfl w.heap.size 5 i0 (.int .u8 0) 1 1 Try.underlying57 hi0 hz0 hz1 hz2 rfl (by decide) _ _ _ rfl (ho.alloc _) ⟨wr.heap.size, 0, none⟩ 1 1 [.int .u8 (128 + (m : Int) % 128)] rfl rfl ?c1 ?c2 ?c3 ?c4 ?c5 ?_)
        case c1 => exact cell_one_new _ _ _
        case c2 => simp [Value.oneCell']
        case c3 => unfold maxLen; omega
        case c4 => omega
        case c5 => simp; omega
        intro v1 w1 hown1 hg1 _
        go_wp2
        go_roundw
        case rel =>
          rw [byte_hi'] at hown1
          exact AppRel.step h128 hmn HX.out HL.out hbw hB' ho hown1 _ hg1
        case measure => simp [intOf]; omega
      · go_wp2_with (at_builtin; refine wpList_append_own _ rfl (.tmp 18) (.tmp 21) 57 rfl w.heap.size 5 i0 (.int .u8 0) 1 1 Try.underlying57 hi0 hz0 hz1 hz2 rfl (by decide) _ _ _ rfl (ho.alloc _) ⟨wr.heap.size, 0, none⟩ 1 1 [.int .u8 (m : Int)] rfl rfl ?c1 ?c2 ?c3 ?c4 ?c5 ?_)
        case c1 => exact cell_one_new _ _ _
        case c2 => simp [Value.oneCell']
        case c3 => unfold maxLen; omega
        case c4 => omega
        case c5 => simp; omega
        intro v1 w1 hown1 hg1 _
        have ho2 : w1.ownsRow w.heap.size 5 1 v1 (k' + 1) (u8s (natB n)) := by
          have e1 := HX.out
          rw [natB_small (show m < 128 by omega)] at e1
          rw [byte_lo (show m < 128 by omega)] at hown1
          rw [List.nil_append] at e1
          rw [← e1]
          exact hown1
        have hcv := own_string ho2
        go_wp2
        go_ret2
        exact ⟨by rw [HF.out]; rfl, (hbw.alloc hB' _).grown hg1 (by simp; omega) (fun q hq => (ho.lt q hq).1)⟩

end Go.Proofs.Ytehclfpjccfmeaa.V1
