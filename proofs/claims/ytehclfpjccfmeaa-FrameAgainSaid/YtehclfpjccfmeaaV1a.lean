/-
  Layer 1, walks: appendNat puts the bytes of a number behind a row of the call's own.
-/
import Derived.Test.YtehclfpjccfmeaaM1
import Derived.Test.YtehclfpjccfmeaaTx
import Derived.WalkKit
import Derived.WalkSpells
import Derived.WalkLawsBesides
import Derived.Lib.Hide
namespace Go.Proofs.Ytehclfpjccfmeaa.V1
open Go.RowKit

theorem byte_hi (m : Nat) : (Value.int .u8 ((m : Int) % 128 + 128)) = Value.int .u8 (UInt8.ofNat (m % 128 + 128)).toNat := by
  rw [toNat_ofNat (by omega)]; simp
theorem byte_lo {m : Nat} (h : m < 128) : (Value.int .u8 (m : Int)) = Value.int .u8 (UInt8.ofNat m).toNat := by
  rw [toNat_ofNat (by omega)]

/-- WHAT THE LOOP OF appendNat KEEPS. -/
def AppRel (B k : Nat) (xs : List Value) (n : Nat) (w : World) (v i : Value) (wr : World) : Prop :=
  ∃ m k' xs', i = .int .i64 ((m : Nat) : Int) ∧ m ≤ n ∧ xs' ++ u8s (natB m) = xs ++ u8s (natB n) ∧ wr.ownsRow B 5 1 v k' xs' ∧ k' + (natB m).length = k + (natB n).length ∧ Below B w wr

theorem AppRel.step {B k n : Nat} {xs : List Value} {w wr w1 : World} {v v1 : Value} {m k' : Nat} {xs' : List Value} (h128 : 128 ≤ m) (hmn : m ≤ n)
    (hx : xs' ++ u8s (natB m) = xs ++ u8s (natB n)) (hk : k' + (natB m).length = k + (natB n).length) (hb : Below B w wr) (hB : B ≤ wr.heap.size)
    (hown : wr.ownsRow B 5 1 v k' xs') (ho : w1.ownsRow B 5 1 v1 (k' + 1) (xs' ++ [Value.int .u8 ((m : Int) % 128 + 128)])) (o : Obj) (hg : (wr.alloc o).grownBy w1 v.ownBlock) :
    AppRel B k xs n w v1 (.int .i64 ((m : Int) / 128)) w1 := by
  refine ⟨m / 128, k' + 1, _, by simp, by omega, ?_, ho, ?_, ?_⟩
  · rw [← hx, natB_step h128, byte_hi, u8s_cons]; simp
  · rw [← hk, natB_step h128]; simp; omega
  · exact (hb.alloc hB o).grown hg (by simp; omega) (fun q hq => (hown.lt q hq).1)

set_option maxRecDepth 100000 in
set_option maxHeartbeats 400000 in
theorem appendNat_any (B : Nat) (v : Value) (k : Nat) (xs : List Value) (n : Nat) (w : World) (hown : w.ownsRow B 5 1 v k xs) (hB : B ≤ w.heap.size)
    (hn : n ≤ 9223372036854775807) (hk : k ≤ 70368744177664) :
    Calls Try.prog 31 #[v, .int .i64 (n : Int)] w fun e w' => ∃ v', e = .returned v' ∧ w'.ownsRow B 5 1 v' (k + (natB n).length) (xs ++ u8s (natB n)) ∧ Below B w w' := by
  obtain ⟨i0, hi0, hz0, hz1, hz2⟩ := info_parts info_u8
  have h0 : AppRel B k xs n w v (.int .i64 (n : Int)) w := ⟨n, k, xs, rfl, Nat.le_refl _, rfl, hown, rfl, Below.refl _ _⟩
  have H0 := Lib.hid h0
  clear h0 hown
  go_enter Try.func31, Try.ntmps31
  go_wp2
  go_loopw [0, 1] (fun v i wr => AppRel B k xs n w v i wr) (fun _ i _ => (intOf i).toNat)
  case atStart => exact H0.out
  case round =>
    obtain ⟨m, k', xs', rfl, hmn, hx, ho, hl, hbw⟩ := hrel
    have hB' : B ≤ wr.heap.size := Nat.le_trans hB hbw.size
    have hl9 := natB_len9 (n := n) hn
    have HX := Lib.hid hx
    have HL := Lib.hid hl
    have hk' : k' ≤ k + 9 := by omega
    clear hx hl hl9 H0
    by_cases h128 : 128 ≤ m
    · go_wp2_with (at_builtin; refine wpList_append_own _ rfl (.tmp 9) (.tmp 14) 57 rfl B 5 i0 (.int .u8 0) 1 1 Try.underlying57 hi0 hz0 hz1 hz2 rfl (by decide) _ _ _ rfl (ho.alloc _) ⟨wr.heap.size, 0, none⟩ 1 1 [.int .u8 ((m : Int) % 128 + 128)] rfl rfl ?c1 ?c2 ?c3 ?c4 ?c5 ?_)
      case c1 => exact cell_one_new _ _ _
      case c2 => simp [Value.oneCell']
      case c3 => unfold maxLen; omega
      case c4 => omega
      case c5 => simp; omega
      intro v1 w1 hown1 hg1 _
      go_wp2
      go_roundw
      case rel => exact AppRel.step h128 hmn HX.out HL.out hbw hB' ho hown1 _ hg1
      case measure => simp [intOf]; omega
    · have hm1 : (natB m).length = 1 := by rw [natB_small (by omega)]; rfl
      have HM := Lib.hid hm1
      clear hm1
      go_wp2_with (at_builtin; refine wpList_append_own _ rfl (.tmp 16) (.tmp 19) 57 rfl B 5 i0 (.int .u8 0) 1 1 Try.underlying57 hi0 hz0 hz1 hz2 rfl (by decide) _ _ _ rfl (ho.alloc _) ⟨wr.heap.size, 0, none⟩ 1 1 [.int .u8 (m : Int)] rfl rfl ?c1 ?c2 ?c3 ?c4 ?c5 ?_)
      case c1 => exact cell_one_new _ _ _
      case c2 => simp [Value.oneCell']
      case c3 => unfold maxLen; omega
      case c4 => omega
      case c5 => simp; omega
      intro v1 w1 hown1 hg1 _
      go_wp2
      go_ret
      refine ⟨v1, rfl, ?_, (hbw.alloc hB' _).grown hg1 (by simp; omega) (fun q hq => (ho.lt q hq).1)⟩
      have e1 := HX.out
      have e2 := HL.out
      rw [natB_small (show m < 128 by omega)] at e1 e2
      rw [byte_lo (show m < 128 by omega)] at hown1
      rw [← e1, ← e2]
      exact hown1

end Go.Proofs.Ytehclfpjccfmeaa.V1
