/-
  Layer 4: what any right program answers; two of the statements.
-/
import Derived.Test.YtcpacgflljmlaaaG4l
namespace Go.Proofs.Ytcpacgflljmlaaa.G4
open Go.RowKit Go.PlainAid
set_option linter.unusedVariables false

theorem mid_awake {r : Nat} (hr : isnan r = true) : midV [4617315517961601024, r, 4607182418800017408, 9218868437227405312] = 4607182418800017408 ∧ midE [4617315517961601024, r, 4607182418800017408, 9218868437227405312] = 0 := by
  have h1 : nums [4617315517961601024, r, 4607182418800017408, 9218868437227405312] = [4617315517961601024, 4607182418800017408] := by
    unfold nums
    rw [List.filter_cons_of_pos (by decide), List.filter_cons_of_neg (by rw [nan_fin hr]; decide), List.filter_cons_of_pos (by decide), List.filter_cons_of_neg (by decide), List.filter_nil]
  have h2 : srt [4617315517961601024, 4607182418800017408] = [4607182418800017408, 4617315517961601024] :=
    (srt_unique (by intro x hx; simp at hx; rcases hx with rfl | rfl <;> exact ⟨by decide, by decide⟩) (List.Perm.swap _ _ _) (by simp; decide)).symm
  unfold midV midE midOf
  rw [h1, h2]
  exact ⟨rfl, rfl⟩
theorem rate00 {r : Nat} (h : Is (rateO 0 0) r) : isnan r = true := by
  rw [rate_nothing, if_pos rfl] at h
  exact h.none
theorem rate_pos {n : Int} (hn : 0 < n) {r : Nat} (h : Is (rateO n 0) r) : r = 9218868437227405312 := by
  rw [rate_nothing, if_neg (by omega), if_neg (by omega)] at h
  exact h.some.1
theorem rate_neg {n : Int} (hn : n < 0) {r : Nat} (h : Is (rateO n 0) r) : r = 18442240474082181120 := by
  rw [rate_nothing, if_neg (by omega), if_pos hn] at h
  exact h.some.1
theorem rate05 {r : Nat} (h : Is (rateO 0 (-5)) r) : r = 9223372036854775808 := by
  rw [show rateO 0 (-5) = some 9223372036854775808 by decide +kernel] at h
  exact h.some.1
theorem fls4 (a b c d : Nat) : fls [a, b, c, d] = [.float .f64 a, .float .f64 b, .float .f64 c, .float .f64 d] := rfl

set_option maxRecDepth 100000 in
set_option maxHeartbeats 2000000 in
theorem awake_any (w : World) : Calls Try.prog 10 #[] w fun e w' => e = .returned (.bool true) ∧ Below w.heap.size w w' := by
  go_enter Try.func10, Try.ntmps10
  go_wp2_with fail
  refine (rate_any 0 0 _).mono ?_
  rintro e w1 ⟨r, rfl, hi, q1, rfl⟩
  have hnan := rate00 hi
  have hlt := hi.1
  have HNAN := Lib.hid hnan
  have HLT := Lib.hid hlt
  clear hi
  go_wp2_with fail
  refine (rate_any 1 0 _).mono ?_
  rintro e w2 ⟨r1, rfl, hi, q2, rfl⟩
  obtain rfl := rate_pos (by decide) hi
  clear hi
  have hb1 : Below w.heap.size w ((w.drewN q1).drewN q2) := below_drewN (below_drewN (Below.refl _ _) q1) q2
  generalize (w.drewN q1).drewN q2 = wa at hb1 ⊢
  have hB : w.heap.size ≤ wa.heap.size := hb1.size
  have hmid : ∀ t : TypeId, Calls Try.prog 20 #[.slice (some ⟨wa.heap.size, 0, none⟩) 4 4] (wa.alloc (.cells #[.float .f64 4617315517961601024, .float .f64 r, .float .f64 4607182418800017408, .float .f64 9218868437227405312] t)) fun e w' => e = .returned (.tuple #[.float .f64 4607182418800017408, .int .i64 0]) ∧ Below (wa.alloc (.cells #[.float .f64 4617315517961601024, .float .f64 r, .float .f64 4607182418800017408, .float .f64 9218868437227405312] t)).heap.size (wa.alloc (.cells #[.float .f64 4617315517961601024, .float .f64 r, .float .f64 4607182418800017408, .float .f64 9218868437227405312] t)) w' := fun t => by
    have h := middle_any (some ⟨wa.heap.size, 0, none⟩) 4 4 [4617315517961601024, r, 4607182418800017408, 9218868437227405312] (wa.alloc (.cells #[.float .f64 4617315517961601024, .float .f64 r, .float .f64 4607182418800017408, .float .f64 9218868437227405312] t))
      (.inr ⟨_, 0, rfl, by simp, fun j hj => by
        rw [fls_len] at hj
        simp at hj
        rcases (by omega : j = 0 ∨ j = 1 ∨ j = 2 ∨ j = 3) with rfl | rfl | rfl | rfl <;> simp [fls]⟩) rfl
      (fun x hx => by simp at hx; rcases hx with rfl | rfl | rfl | rfl <;> first | exact HLT.out | decide) (by omega)
    rw [(mid_awake HNAN.out).1, (mid_awake HNAN.out).2] at h
    exact h
  have hd1 : (FloatKind.f64.format.order r r != some .eq) = true := (f_neq_self r).trans HNAN.out
  have HMID := Lib.hid hmid
  clear hmid
  go_wp2_with fail
  refine (HMID.out _).mono ?_
  rintro e w3 ⟨rfl, hb3⟩
  have hb4 : Below w.heap.size w w3 := (hb1.alloc hB _).trans (hb3.mono (by simp; omega))
  clear hb1 hb3 HMID
  go_wp2_with fail
  refine (rate_any (-1) 0 _).mono ?_
  rintro e w4 ⟨r2, rfl, hi, q3, rfl⟩
  obtain rfl := rate_neg (by decide) hi
  clear hi
  go_wp2_with fail
  refine (cmp_any r 18442240474082181120 _ HLT.out (by decide)).mono ?_
  rintro e w5 ⟨rfl, rfl⟩
  have hc1 : cmpF r 18442240474082181120 = -1 := by
    unfold cmpF; rw [if_pos (by rw [key_nan HNAN.out]; decide)]
  rw [hc1]
  go_wp2_with fail
  refine (rate_any 0 (-5) _).mono ?_
  rintro e w6 ⟨r3, rfl, hi, q4, rfl⟩
  obtain rfl := rate05 hi
  clear hi
  go_wp2_with fail
  refine (cmp_any 9223372036854775808 0 _ (by decide) (by decide)).mono ?_
  rintro e w7 ⟨rfl, rfl⟩
  rw [show cmpF 9223372036854775808 0 = -1 by decide]
  have hd2 : (FloatKind.f64.format.order 4607182418800017408 4607182418800017408 == some .eq) = true := by decide +kernel
  go_wp2
  go_ret
  exact ⟨rfl, below_drewN hb4 (q3 + q4)⟩

end Go.Proofs.Ytcpacgflljmlaaa.G4
