/-
  Layer 1, walks: Take of the program and of the document.
-/
import Derived.Test.YtehclfpjccfmeaaV1b
import Derived.BigQuiet
import Derived.Deep.QuietTactic
import Derived.PlainAid
import Derived.Deep.LoopGhost
import Derived.Deep.Draws
namespace Go.Proofs.Ytehclfpjccfmeaa.V1
open Go.RowKit Go.PlainAid

def TkRel (s : ByteArray) (nv iv : Value) : Prop :=
  ∃ k a : Nat, nv = .int .i64 (a : Int) ∧ iv = .int .i64 (k : Int) ∧ k ≤ 8 ∧ k ≤ s.size ∧ a < 128 ^ k ∧ take s.data.toList = tk k a (s.data.toList.drop k)

theorem or_shift (a x k : Nat) (hx : x < 128) (hk : k ≤ 8) (ha : a < 128 ^ k) : bits .or .i64 (a : Int) (wrap64 ((x : Int) * 2 ^ (7 * k))) = ((a + x * 128 ^ k : Nat) : Int) := by
  have h128 : (128 : Nat) ^ k = 2 ^ (7 * k) := by rw [show (128 : Nat) = 2 ^ 7 by rfl, ← Nat.pow_mul]
  have hc : ((x : Int) * 2 ^ (7 * k)) = ((x * 128 ^ k : Nat) : Int) := by rw [h128]; simp
  have hp : 128 ^ k ≤ 72057594037927936 := by
    exact Nat.le_trans (Nat.pow_le_pow_right (n := 128) (by omega) hk) (by decide)
  have hx2 : x * 128 ^ k ≤ 127 * 72057594037927936 := Nat.mul_le_mul (by omega) hp
  rw [hc, IntWalk.wrap64_in _ ⟨by omega, by omega⟩]
  rw [(bits_nat .i64 63 (by decide) (fun n h0 h1 => IntWalk.i64_in n ⟨by omega, by omega⟩) a (x * 128 ^ k) (by omega) (by omega)).2]
  rw [Nat.or_comm, h128, Nat.mul_comm x, ← Nat.two_pow_add_eq_or_of_lt (by rw [← h128]; exact ha)]
  congr 1; omega

theorem tk_stop {l r : List UInt8} {k a : Nat} {b : UInt8} (ht : take l = tk k a (l.drop k)) (hd : l.drop k = b :: r) (h : b.toNat < 128) (hz : ¬ (b.toNat = 0 ∧ 0 < k)) :
    take l = (a + b.toNat * 128 ^ k, r, 0) := by
  rw [ht, hd, tk, if_pos h, if_neg hz]
theorem tk_zero {l r : List UInt8} {k a : Nat} {b : UInt8} (ht : take l = tk k a (l.drop k)) (hd : l.drop k = b :: r) (h : b.toNat < 128) (hz : b.toNat = 0 ∧ 0 < k) :
    take l = (0, [], 11) := by
  rw [ht, hd, tk, if_pos h, if_pos hz]
theorem tk_far {l r : List UInt8} {k a : Nat} {b : UInt8} (ht : take l = tk k a (l.drop k)) (hd : l.drop k = b :: r) (h : ¬ b.toNat < 128) (h8 : k = 8) :
    take l = (0, [], 11) := by
  rw [ht, hd, tk, if_neg h, if_pos h8]
theorem tk_on {l r : List UInt8} {k a : Nat} {b : UInt8} (ht : take l = tk k a (l.drop k)) (hd : l.drop k = b :: r) (h : ¬ b.toNat < 128) (h8 : ¬ k = 8) :
    take l = tk (k + 1) (a + (b.toNat - 128) * 128 ^ k) r := by
  rw [ht, hd, tk, if_neg h, if_neg h8]
theorem tk_out {s : ByteArray} {k a : Nat} (ht : take s.data.toList = tk k a (s.data.toList.drop k)) (h : k = s.size) : take s.data.toList = (0, [], 10) := by
  rw [ht, List.drop_of_length_le (by simp; omega), tk]

theorem TkRel.on {s : ByteArray} {k a : Nat} {b : UInt8} {x : Int} (ht : take s.data.toList = tk k a (s.data.toList.drop k)) (hd : s.data.toList.drop k = b :: s.data.toList.drop (k + 1))
    (hb : x = (b.toNat : Int)) (h : ¬ x < 128) (h8 : ¬ k = 8) (hk8 : k ≤ 8) (hks : k < s.size) (ha : a < 128 ^ k) :
    TkRel s (.int .i64 (bits .or .i64 (a : Int) (wrap64 ((x - 128) * 2 ^ (7 * k))))) (.int .i64 ((k : Int) + 1)) := by
  subst hb
  have hb2 : b.toNat < 256 := b.toNat_lt
  refine ⟨k + 1, a + (b.toNat - 128) * 128 ^ k, ?_, by go_num, by omega, by omega, ?_, tk_on ht hd (by omega) h8⟩
  · rw [show ((b.toNat : Int) - 128) = ((b.toNat - 128 : Nat) : Int) by omega, or_shift a (b.toNat - 128) k (by omega) (by omega) ha]
  · rw [Nat.pow_succ]
    have : (b.toNat - 128) * 128 ^ k ≤ 127 * 128 ^ k := Nat.mul_le_mul_right _ (by omega)
    omega

set_option maxRecDepth 100000 in
set_option maxHeartbeats 400000 in
theorem take_any (s : ByteArray) (hs : s.size ≤ 9223372036854775807) (w : World) :
    Calls Try.prog 27 #[.string s] w fun e w' => e = .returned (.tuple #[.int .i64 ((take s.data.toList).1 : Int), .string (bs (take s.data.toList).2.1), .int .i64 (take s.data.toList).2.2]) ∧ Below w.heap.size w w' := by
  have hb := get_bt s
  go_enter Try.func27, Try.ntmps27
  go_wp2
  go_step3
  go_wp2
  go_step3
  go_wp2
  go_loop [2, 5] (fun nv iv => TkRel s nv iv) (fun _ iv => 9 - (intOf iv).toNat)
  case atStart => exact ⟨0, 0, rfl, rfl, by omega, by omega, by simp, rfl⟩
  case round =>
    obtain ⟨k, a, rfl, rfl, hk8, hks, ha, ht⟩ := hrel
    have HT := Lib.hid ht
    have HA := Lib.hid ha
    clear ht ha
    by_cases hsz : k = s.size
    · have HS := Lib.hid hsz
      have hne : ((k : Int) == (s.size : Int)) = true := by simp; omega
      clear hsz
      go_wp2
      try rw [Exit.noGoto_ret]
      go_ret3
      exact ⟨by rw [tk_out HT.out HS.out]; rfl, Below.refl _ _⟩
    · obtain ⟨b, hd, hbt⟩ := drop_bt s (show k < s.size by omega)
      have HD := Lib.hid hd
      have HB := Lib.hid hbt
      have hb0 : 0 ≤ bt s k := bt_nonneg s k
      have hb1 : bt s k ≤ 255 := bt_le s k
      have hks2 : k < s.size := by omega
      have hne : ((k : Int) == (s.size : Int)) = false := by simp; omega
      clear hd hbt hsz
      by_cases hlo : bt s k < 128
      · by_cases hz : bt s k = 0 ∧ 0 < k
        · obtain ⟨hz1, hz2⟩ := hz
          have hz1' : (bt s k == 0) = true := by simp; omega
          have HZ := Lib.hid hz1
          clear hz1
          go_wp2
          try rw [Exit.noGoto_ret]
          go_ret3
          have e1 := HB.out
          have e2 := HZ.out
          exact ⟨by rw [tk_zero HT.out HD.out (by omega) ⟨by omega, hz2⟩]; rfl, Below.refl _ _⟩
        · have fin : bits .or .i64 (a : Int) (wrap64 (bt s k * 2 ^ (7 * k))) = ((take s.data.toList).1 : Int) ∧ s.extract (k + 1) s.size = bs (take s.data.toList).2.1 ∧ (0 : Int) = (take s.data.toList).2.2 := by
            have e1 := HB.out
            rw [tk_stop HT.out HD.out (by omega) (by omega), e1]
            exact ⟨or_shift a b.toNat k (by omega) hk8 HA.out, ext_end s (k + 1), rfl⟩
          have FIN := Lib.hid fin
          clear fin
          by_cases hz1 : bt s k = 0
          · obtain rfl : k = 0 := by omega
            have HZ := Lib.hid hz1
            have hz1' : (bt s 0 == 0) = true := by simp; omega
            clear hz1
            go_wp2
            go_quiet (fail)
            go_wp2
            try rw [Exit.noGoto_ret]
            go_ret3
            have e0 : wrap64 (bt s 0 * 2 ^ (7 * 0)) = bt s 0 := by
              show wrap64 (bt s 0 * 1) = _
              rw [Int.mul_one, IntWalk.wrap64_in _ ⟨by omega, by omega⟩]
            have f1 := FIN.out.1
            rw [e0] at f1
            exact ⟨ret3 f1 FIN.out.2.1 FIN.out.2.2, below_drewN (Below.refl _ _) nq⟩
          · have hz1' : (bt s k == 0) = false := by simp; omega
            clear hz1 hz
            go_wp2
            go_quiet (fail)
            go_wp2
            try rw [Exit.noGoto_ret]
            go_ret3
            exact ⟨ret3 FIN.out.1 FIN.out.2.1 FIN.out.2.2, below_drewN (Below.refl _ _) nq⟩
      · by_cases h8 : k = 8
        · have H8 := Lib.hid h8
          have h8' : ((k : Int) == 8) = true := by simp; omega
          clear h8
          go_wp2
          try rw [Exit.noGoto_ret]
          go_ret3
          have e1 := HB.out
          exact ⟨by rw [tk_far HT.out HD.out (by omega) H8.out]; rfl, Below.refl _ _⟩
        · have h8' : ((k : Int) == 8) = false := by simp; omega
          go_wp2
          go_round
          case rel => exact TkRel.on HT.out HD.out HB.out hlo h8 hk8 hks2 HA.out
          case measure => simp [intOf]; omega

/-- WHAT THE LOOP OF THE DOCUMENT's Take KEEPS: n, the next byte's place, its weight. -/
def RtRel (s : ByteArray) (nv pv iv : Value) : Prop :=
  ∃ k a p : Nat, nv = .int .i64 (a : Int) ∧ pv = .int .i64 (p : Int) ∧ iv = .int .i64 (k : Int) ∧ k ≤ 8 ∧ k ≤ s.size ∧ p = 128 ^ k ∧ a < p ∧ take s.data.toList = tk k a (s.data.toList.drop k)

theorem p_le {k p : Nat} (h : p = 128 ^ k) (hk : k ≤ 8) : 1 ≤ p ∧ p ≤ 72057594037927936 := by
  subst h
  exact ⟨Nat.one_le_pow _ _ (by omega), Nat.le_trans (Nat.pow_le_pow_right (n := 128) (by omega) hk) (by decide)⟩

theorem prod_le {x : Int} {p : Nat} (h0 : 0 ≤ x) (h1 : x ≤ 127) (hp : p ≤ 72057594037927936) : 0 ≤ x * (p : Int) ∧ x * (p : Int) ≤ 9151314442816847872 := by
  obtain ⟨x, rfl⟩ := Int.eq_ofNat_of_zero_le h0
  have h : x * p ≤ 127 * 72057594037927936 := Nat.mul_le_mul (by omega) hp
  constructor
  · exact_mod_cast Nat.zero_le _
  · have : ((x * p : Nat) : Int) ≤ 9151314442816847872 := by omega
    simpa using this

theorem RtRel.on {s : ByteArray} {k a p : Nat} {b : UInt8} {x : Int} (ht : take s.data.toList = tk k a (s.data.toList.drop k)) (hd : s.data.toList.drop k = b :: s.data.toList.drop (k + 1))
    (hb : x = (b.toNat : Int)) (h : ¬ x < 128) (h8 : ¬ k = 8) (hk8 : k ≤ 8) (hks : k < s.size) (hp : p = 128 ^ k) (ha : a < p) :
    RtRel s (.int .i64 ((a : Int) + x % 128 * (p : Int))) (.int .i64 ((p : Int) * 128)) (.int .i64 ((k : Int) + 1)) := by
  subst hb
  have hb2 : b.toNat < 256 := b.toNat_lt
  have ep : p * 128 = 128 ^ (k + 1) := by rw [hp, Nat.pow_succ]
  refine ⟨k + 1, a + (b.toNat - 128) * p, p * 128, ?_, by go_num, by go_num, by omega, by omega, ep, ?_, ?_⟩
  · rw [show ((b.toNat : Int) % 128) = ((b.toNat - 128 : Nat) : Int) by omega]; simp
  · have : (b.toNat - 128) * p ≤ 127 * p := Nat.mul_le_mul_right _ (by omega)
    omega
  · rw [tk_on ht hd (by omega) h8, hp]

set_option maxRecDepth 100000 in
set_option maxHeartbeats 400000 in
theorem refTake_any (s : ByteArray) (hs : s.size ≤ 9223372036854775807) (w : World) :
    Calls Try.prog 28 #[.string s] w fun e w' => e = .returned (.tuple #[.int .i64 ((take s.data.toList).1 : Int), .string (bs (take s.data.toList).2.1), .int .i64 (take s.data.toList).2.2]) ∧ Below w.heap.size w w' := by
  have hb := get_bt s
  go_enter Try.func28, Try.ntmps28
  go_wp2
  go_loop [5, 6, 7] (fun nv pv iv => RtRel s nv pv iv) (fun _ _ iv => 9 - (intOf iv).toNat)
  case atStart => exact ⟨0, 0, 1, rfl, rfl, rfl, by omega, by omega, by simp, by omega, rfl⟩
  case round =>
    obtain ⟨k, a, p, rfl, rfl, rfl, hk8, hks, hp, ha, ht⟩ := hrel
    have HT := Lib.hid ht
    have HP := Lib.hid hp
    obtain ⟨hp1, hp2⟩ := p_le hp hk8
    clear ht hp
    by_cases hsz : k = s.size
    · have HS := Lib.hid hsz
      have hne : ¬ k < s.size := by omega
      clear hsz
      go_wp2
      go_ret3
      exact ⟨by rw [tk_out HT.out HS.out]; rfl, Below.refl _ _⟩
    · obtain ⟨b, hd, hbt⟩ := drop_bt s (show k < s.size by omega)
      have HD := Lib.hid hd
      have HB := Lib.hid hbt
      have hb0 : 0 ≤ bt s k := bt_nonneg s k
      have hb1 : bt s k ≤ 255 := bt_le s k
      have hks2 : k < s.size := by omega
      clear hd hbt hsz
      by_cases hlo : bt s k < 128
      · obtain ⟨hq0, hq1⟩ := prod_le (p := p) (show 0 ≤ bt s k % 128 by omega) (by omega) hp2
        by_cases hz : bt s k = 0 ∧ 0 < k
        · obtain ⟨hz1, hz2⟩ := hz
          have hz1' : (bt s k == 0) = true := by simp; omega
          have HZ := Lib.hid hz1
          clear hz1
          go_wp2
          all_goals
            go_ret3
            have e1 := HB.out
            have e2 := HZ.out
            exact ⟨by rw [tk_zero HT.out HD.out (by omega) ⟨by omega, hz2⟩]; rfl, Below.refl _ _⟩
        · have fin : (a : Int) + bt s k % 128 * (p : Int) = ((take s.data.toList).1 : Int) ∧ s.extract (k + 1) s.size = bs (take s.data.toList).2.1 ∧ (0 : Int) = (take s.data.toList).2.2 := by
            have e1 := HB.out
            rw [tk_stop HT.out HD.out (by omega) (by omega), e1, ← HP.out]
            refine ⟨?_, ext_end s (k + 1), rfl⟩
            rw [show (b.toNat : Int) % 128 = (b.toNat : Int) by omega]
            simp
          have FIN := Lib.hid fin
          clear fin
          by_cases hz1 : bt s k = 0
          · obtain rfl : k = 0 := by omega
            have hz1' : (bt s 0 == 0) = true := by simp; omega
            have HZ := Lib.hid hz1
            clear hz1
            go_wp2
            go_quiet (fail)
            go_wp2
            go_ret3
            exact ⟨ret3 FIN.out.1 FIN.out.2.1 FIN.out.2.2, below_drewN (Below.refl _ _) nq⟩
          · have hz1' : (bt s k == 0) = false := by simp; omega
            clear hz hz1
            have hh : ((k : Int) == 8) = true ∨ ((k : Int) == 8) = false := by cases h : ((k : Int) == 8) <;> simp
            rcases hh with h8' | h8'
            all_goals
              go_wp2
              go_quiet (fail)
              go_wp2
              go_ret3
              exact ⟨ret3 FIN.out.1 FIN.out.2.1 FIN.out.2.2, below_drewN (Below.refl _ _) nq⟩
      · by_cases h8 : k = 8
        · have H8 := Lib.hid h8
          have h8' : ((k : Int) == 8) = true := by simp; omega
          clear h8
          go_wp2
          go_ret3
          have e1 := HB.out
          exact ⟨by rw [tk_far HT.out HD.out (by omega) H8.out]; rfl, Below.refl _ _⟩
        · have h8' : ((k : Int) == 8) = false := by simp; omega
          obtain ⟨hq0, hq1⟩ := prod_le (p := p) (show 0 ≤ bt s k % 128 by omega) (by omega) hp2
          have hp3 : p ≤ 562949953421312 := by
            rw [HP.out]
            exact Nat.le_trans (Nat.pow_le_pow_right (n := 128) (by omega) (show k ≤ 7 by omega)) (by decide)
          have hq2 : bt s k % 128 * (p : Int) ≤ 71494644084506624 := by
            have h : ∀ x : Nat, x ≤ 127 → ((x * p : Nat) : Int) ≤ 71494644084506624 := fun x hx => by
              have := Nat.mul_le_mul hx hp3
              omega
            have := h (bt s k % 128).toNat (by omega)
            rw [Int.natCast_mul, Int.toNat_of_nonneg (by omega)] at this
            exact this
          go_wp2
          go_round
          case rel => exact RtRel.on HT.out HD.out HB.out hlo h8 hk8 hks2 HP.out ha
          case measure => simp [intOf]; omega
end Go.Proofs.Ytehclfpjccfmeaa.V1
