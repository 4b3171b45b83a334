/-
  Layer 4, walks: the library's parts that change places.
-/
import Derived.Test.YtcpacgflljmlaaaM4c
import Derived.Test.YtcpacgflljmlaaaG4d
import Derived.Shelf.SlSortCmp.Insertion1
namespace Go.Proofs.Ytcpacgflljmlaaa.G4
open Go.Shelf Go.RowKit Go.Lib Go.Sort
set_option linter.unusedVariables false
variable {α : Type} [Inhabited α]

theorem mixed_orders : Try.prog.follows .mixedOrders = true := by kernel_rfl

set_option maxRecDepth 1000000 in
set_option maxHeartbeats 4000000 in
theorem swapRange_s (enc : α → Value) (g : Nat) (cb : Array Value) (blk off cap a b n : Nat) (d0 d : Array α) (w0 w : World)
    (R : Row1 enc w0 blk off d0) (hs : d0.size = d.size) (S : SW enc w0 blk off d w) (hab : a + n ≤ b) (hb : b + n ≤ d.size) (hsz : d.size < 4611686018427387904) :
    Calls Try.prog 62 #[.slice (some ⟨blk, off, none⟩) d.size cap, .int .i64 a, .int .i64 b, .int .i64 n, .func (.func g) #[] cb] w fun e w' => e = .returned (.tuple #[]) ∧ SW enc w0 blk off (swapR d a b n) w' := by
  have mixed := mixed_orders
  have hcl0 := R.hO.cells
  simp only [Value.cells] at hcl0
  have hst := R.hO.store Try.prog
  have S0 : Aside (SW enc w0 blk off (swapR d a b 0) w) := S
  clear S
  go_enter Try.func62, Try.ntmps62
  go_wp2
  go_loopw [10] (fun v wr => ∃ i : Nat, i ≤ n ∧ v = .int .i64 i ∧ Aside (SW enc w0 blk off (swapR d a b i) wr)) (fun v _ => n - (intOf v).toNat)
  case atStart => exact ⟨0, by omega, rfl, S0⟩
  case round =>
    clear S0
    obtain ⟨i, hi, rfl, S1⟩ := hrel
    by_cases hlt : i < n
    · have hltz : (i : Int) < (n : Int) := by omega
      have hz := size_swapR d a b i
      obtain ⟨iN, hiN⟩ : ∃ q, q = a + i := ⟨_, rfl⟩
      obtain ⟨jN, hjN⟩ : ∃ q, q = b + i := ⟨_, rfl⟩
      have ei : ((a : Int) + (i : Int)).toNat = iN := by omega
      have pi : (0 : Int) ≤ (a : Int) + (i : Int) := by omega
      have bi : (a : Int) + (i : Int) < (d.size : Int) := by omega
      have ri : IntKind.i64.wrap ((a : Int) + (i : Int)) = (a : Int) + (i : Int) := by rw [IntKind.wrap_i64]; omega
      have ej : ((b : Int) + (i : Int)).toNat = jN := by omega
      have pj : (0 : Int) ≤ (b : Int) + (i : Int) := by omega
      have bj : (b : Int) + (i : Int) < (d.size : Int) := by omega
      have rj : IntKind.i64.wrap ((b : Int) + (i : Int)) = (b : Int) + (i : Int) := by rw [IntKind.wrap_i64]; omega
      obtain ⟨xv, hx⟩ : ∃ x, x = (swapR d a b i)[a + i]! := ⟨_, rfl⟩
      obtain ⟨yv, hy⟩ : ∃ x, x = (swapR d a b i)[b + i]! := ⟨_, rfl⟩
      have S2 : Aside (SW enc w0 blk off (swp (swapR d a b i) (a + i) (b + i)) ((wr.setCell ⟨blk, off + iN, none⟩ (enc yv)).setCell ⟨blk, off + jN, none⟩ (enc xv)).drew) := by rw [hiN, hjN, hx, hy]; exact S1.out.swapped R (a + i) (b + i) (by omega) (by omega)
      have ca := S1.out.c1 R (by omega) (a + i) (by omega)
      have cb' := S1.out.c1 R (by omega) (b + i) (by omega)
      have fa := S1.out.f1 R (by omega) (a + i) (by omega)
      have fb := S1.out.f1 R (by omega) (b + i) (by omega)
      obtain ⟨uv, cc⟩ := S1.out.c2 R (by omega) (a + i) (b + i) (by omega) (by omega) (enc yv)
      rw [← hjN, ← hiN] at cc
      rw [← hx, ← hiN] at ca
      rw [← hy, ← hjN] at cb'
      rw [← hiN] at fa
      rw [← hjN] at fb
      clear S1 hx hy hiN hjN
      go_wp2_with fail
      go_big_region_o
      clear ca cb' cc fa fb
      generalize ((wr.setCell ⟨blk, off + iN, none⟩ (enc yv)).setCell ⟨blk, off + jN, none⟩ (enc xv)).drew = w2 at S2 ⊢
      clear ei ej ri rj bi bj pi pj
      go_wp2
      go_roundw
      case rel => exact ⟨i + 1, by omega, by go_num, S2⟩
      case measure => simp [intOf]; omega
    · have hltz : ¬ (i : Int) < (n : Int) := by omega
      obtain rfl : i = n := by omega
      go_wp2
      go_end0
      exact ⟨rfl, S1.out⟩

set_option maxRecDepth 1000000 in
set_option maxHeartbeats 4000000 in
theorem rotate_s (enc : α → Value) (g : Nat) (cb : Array Value) (blk off cap a m b : Nat) (d0 d : Array α) (w0 w : World)
    (R : Row1 enc w0 blk off d0) (hs : d0.size = d.size) (S : SW enc w0 blk off d w) (ham : a < m) (hmb : m < b) (hb : b ≤ d.size) (hsz : d.size < 4611686018427387904) :
    Calls Try.prog 60 #[.slice (some ⟨blk, off, none⟩) d.size cap, .int .i64 a, .int .i64 m, .int .i64 b, .func (.func g) #[] cb] w fun e w' => e = .returned (.tuple #[]) ∧
      ∃ d', PermIn a b d d' ∧ (∀ x, d'[x]! = rotAt d a m b x) ∧ SW enc w0 blk off d' w' := by
  have S0 : Aside (SW enc w0 blk off d w) := S
  clear S
  have P0 : Hid (PermIn a b d d) := permIn_refl _ _ _
  have q0 : ∀ x, rotAt d (m - (m - a)) m (m + (b - m)) x = rotAt d a m b x := fun x => by rw [show m - (m - a) = a by omega, show m + (b - m) = b by omega]
  have Q0 := Lib.hid q0
  clear q0
  have z1 : (m : Int) - (a : Int) = ((m - a : Nat) : Int) := by omega
  have z2 : (b : Int) - (m : Int) = ((b - m : Nat) : Int) := by omega
  have z3 : IntKind.i64.wrap ((m : Int) - (a : Int)) = ((m - a : Nat) : Int) := by rw [IntKind.wrap_i64]; omega
  have z4 : IntKind.i64.wrap ((b : Int) - (m : Int)) = ((b - m : Nat) : Int) := by rw [IntKind.wrap_i64]; omega
  go_enter Try.func60, Try.ntmps60
  go_wp2
  clear z1 z2 z3 z4
  go_loopw [10, 11] (fun vi vj wr => ∃ (i j : Nat) (dk : Array α), vi = .int .i64 i ∧ vj = .int .i64 j ∧ 0 < i ∧ 0 < j ∧ i ≤ m - a ∧ j ≤ b - m ∧ dk.size = d.size ∧ Hid (PermIn a b d dk) ∧ Hid (∀ x, rotAt dk (m - i) m (m + j) x = rotAt d a m b x) ∧ Aside (SW enc w0 blk off dk wr)) (fun vi vj _ => (intOf vi).toNat + (intOf vj).toNat)
  case atStart => exact ⟨m - a, b - m, d, by first | rfl | go_num | (congr 1; omega), by first | rfl | go_num | (congr 1; omega), by omega, by omega, by omega, by omega, rfl, P0, Q0, S0⟩
  case round =>
    clear S0 P0 Q0
    obtain ⟨i, j, dk, rfl, rfl, hi, hj, him, hjb, hsk, HP, HQ, S1⟩ := hrel
    have z1 : IntKind.i64.wrap ((m : Int) - (i : Int)) = (m : Int) - (i : Int) := by rw [IntKind.wrap_i64]; omega
    rcases Nat.lt_trichotomy i j with h | h | h
    · have hne : ¬ (i : Int) = (j : Int) := by omega
      have hne' : ((i : Int) != (j : Int)) = true := by rw [bne_iff_ne]; omega
      have hgt : ¬ (j : Int) < (i : Int) := by omega
      have z2 : IntKind.i64.wrap ((m : Int) + (j : Int)) = (m : Int) + (j : Int) := by rw [IntKind.wrap_i64]; omega
      have z3 : IntKind.i64.wrap ((m : Int) + (j : Int) - (i : Int)) = (m : Int) + (j : Int) - (i : Int) := by rw [IntKind.wrap_i64]; omega
      have z4 : IntKind.i64.wrap ((j : Int) - (i : Int)) = (j : Int) - (i : Int) := by rw [IntKind.wrap_i64]; omega
      have hc := swapRange_s enc g cb blk off cap (m - i) (m + j - i) i d0 dk w0 wr R (by omega) S1.out (by omega) (by omega) (by omega)
      rw [hsk, show ((m - i : Nat) : Int) = (m : Int) - (i : Int) by omega, show ((m + j - i : Nat) : Int) = (m : Int) + (j : Int) - (i : Int) by omega] at hc
      have HP2 : Hid (PermIn a b d (swapR dk (m - i) (m + j - i) i)) := permIn_trans _ _ _ _ _ HP.out (perm_swapR dk _ _ _ _ _ (by omega) (by omega) (by omega) (by omega))
      have HQ2 : Hid (∀ x, rotAt (swapR dk (m - i) (m + j - i) i) (m - i) m (m + (j - i)) x = rotAt d a m b x) := fun x => by rw [rot_lt dk m i j x (by omega) h (by omega)]; exact HQ.out x
      have hz2 : (swapR dk (m - i) (m + j - i) i).size = d.size := by rw [size_swapR]; exact hsk
      generalize swapR dk (m - i) (m + j - i) i = dn at hc HP2 HQ2 hz2
      clear HP HQ S1
      go_wp2_with fail
      refine hc.mono ?_
      rintro e w1 ⟨rfl, s1⟩
      have S2 : Aside (SW enc w0 blk off dn w1) := s1
      clear s1 hc
      go_wp2
      go_roundw
      case rel => exact ⟨i, j - i, dn, rfl, by first | rfl | go_num | (congr 1; omega), by omega, by omega, by omega, by omega, hz2, HP2, HQ2, S2⟩
      case measure => simp [intOf]; omega
    · subst h
      have hne' : ((i : Int) != (i : Int)) = false := by simp
      have hc := swapRange_s enc g cb blk off cap (m - i) m i d0 dk w0 wr R (by omega) S1.out (by omega) (by omega) (by omega)
      rw [hsk, show ((m - i : Nat) : Int) = (m : Int) - (i : Int) by omega] at hc
      have HP2 : Hid (PermIn a b d (swapR dk (m - i) m i)) := permIn_trans _ _ _ _ _ HP.out (perm_swapR dk _ _ _ _ _ (by omega) (by omega) (by omega) (by omega))
      have HQ2 : Hid (∀ x, (swapR dk (m - i) m i)[x]! = rotAt d a m b x) := fun x => by rw [rot_eq dk m i x (by omega) (by omega)]; exact HQ.out x
      generalize swapR dk (m - i) m i = dn at hc HP2 HQ2
      clear HP HQ S1
      go_wp2_with fail
      refine hc.mono ?_
      rintro e w1 ⟨rfl, s1⟩
      have S2 : Aside (SW enc w0 blk off dn w1) := s1
      clear s1 hc
      go_wp2
      go_end0
      exact ⟨rfl, dn, HP2.out, HQ2.out, S2.out⟩
    · have hne : ¬ (i : Int) = (j : Int) := by omega
      have hne' : ((i : Int) != (j : Int)) = true := by rw [bne_iff_ne]; omega
      have hgt : (j : Int) < (i : Int) := by omega
      have z4 : IntKind.i64.wrap ((i : Int) - (j : Int)) = (i : Int) - (j : Int) := by rw [IntKind.wrap_i64]; omega
      have hc := swapRange_s enc g cb blk off cap (m - i) m j d0 dk w0 wr R (by omega) S1.out (by omega) (by omega) (by omega)
      rw [hsk, show ((m - i : Nat) : Int) = (m : Int) - (i : Int) by omega] at hc
      have HP2 : Hid (PermIn a b d (swapR dk (m - i) m j)) := permIn_trans _ _ _ _ _ HP.out (perm_swapR dk _ _ _ _ _ (by omega) (by omega) (by omega) (by omega))
      have HQ2 : Hid (∀ x, rotAt (swapR dk (m - i) m j) (m - (i - j)) m (m + j) x = rotAt d a m b x) := fun x => by
        rw [show m - (i - j) = m - i + j by omega, rot_gt dk m i j x (by omega) h (by omega)]; exact HQ.out x
      have hz2 : (swapR dk (m - i) m j).size = d.size := by rw [size_swapR]; exact hsk
      generalize swapR dk (m - i) m j = dn at hc HP2 HQ2 hz2
      clear HP HQ S1
      go_wp2_with fail
      refine hc.mono ?_
      rintro e w1 ⟨rfl, s1⟩
      have S2 : Aside (SW enc w0 blk off dn w1) := s1
      clear s1 hc
      go_wp2
      go_roundw
      case rel => exact ⟨i - j, j, dn, by first | rfl | go_num | (congr 1; omega), rfl, by omega, by omega, by omega, by omega, hz2, HP2, HQ2, S2⟩
      case measure => simp [intOf]; omega

end Go.Proofs.Ytcpacgflljmlaaa.G4
