/-
  Layer 5: vectors that cover one another are the same when they are plain.
-/
import Derived.Test.YticiolhfoeenmaaDoorS5w
namespace Go.Proofs.YticiolhfoeenmaaDoor.S5
open Go.RowKit Go.PlainAid Go.Shelf M5
set_option linter.unusedVariables false

theorem merge_turn (A B : Option Addr) (n m c d : Nat) (v u : List Int) (w : World) (hv : Rd w A (is v)) (hu : Rd w B (is u)) (hn : v.length = n) (hm : u.length = m) (hle : n ≤ 1000000000) (hlm : m ≤ 1000000000) :
    Calls Tryd.prog 34 #[.slice B m d, .slice A n c] w fun e w' => ∃ C k q, e = .returned (.slice C k q) ∧ Rd w' C (is (mergeL v u)) ∧ (mergeL v u).length = k ∧ Below w.heap.size w w' := by
  rw [merge_comm v u]
  exact merge_any B A m n d c u v w hu hv hm hn hlm hle
theorem plain_again (A : Option Addr) (n c : Nat) (v : List Int) (w : World) (hr : Rd w A (is (plainL v))) (hn : (plainL v).length = n) (hle : n ≤ 1000000000) :
    Calls Tryd.prog 32 #[.slice A n c] w fun e w' => ∃ B k d, e = .returned (.slice B k d) ∧ Rd w' B (is (plainL v)) ∧ (plainL v).length = k ∧ Below w.heap.size w w' := by
  have := plain_any A n c (plainL v) w hr hn hle
  rw [plain_plain] at this
  exact this

set_option maxRecDepth 100000 in
set_option maxHeartbeats 1000000 in
theorem same_long (w : World) (he : Env w) (a1 a2 : Option Addr) (n m c d : Nat) (h : 100 < n ∨ (¬ 100 < n ∧ 100 < m)) :
    Calls Tryd.prog 9 #[.slice a1 n c, .slice a2 m d] w fun e w' => e = .returned (.bool true) ∧ Below w.heap.size w w' := by
  have HE := Lib.hid he
  clear he
  rcases h with h | ⟨h, h2⟩
  all_goals
    go_enter Tryd.func9, Tryd.ntmps9
    go_wp2_with fail
    refine (awake_any _ HE.out).mono ?_
    rintro e w1 ⟨rfl, hb1⟩
    go_wp2
    go_ret
    exact ⟨rfl, hb1⟩

set_option maxRecDepth 100000 in
set_option maxHeartbeats 4000000 in
theorem same_in (w : World) (a1 a2 : Option Addr) (n m c d : Nat) (v u : List Int) (hk : Vec w a1 a2 v u w) (hn : v.length = n) (hm : u.length = m) (h1 : n ≤ 100) (h2 : m ≤ 100) (b1 b2 : Bool) (hc1 : coversL v u = b1) (hc2 : coversL u v = b2) :
    Calls Tryd.prog 9 #[.slice a1 n c, .slice a2 m d] w fun e w' => e = .returned (.bool true) ∧ Below w.heap.size w w' := by
  have hmg : (mergeL v u).length ≤ 100 := by have := togL_len max v u; unfold mergeL; omega
  have hp1 : (plainL v).length ≤ 100 := by have := plainL_le v; omega
  have hp2 : (plainL u).length ≤ 100 := by have := plainL_le u; omega
  have hs : decide (plainL v = plainL u) = (b1 && b2) := by rw [same_covers, hc1, hc2]
  have HS := Lib.hid hs
  have H1 := Lib.hid hc1
  have H2 := Lib.hid hc2
  have KK := Lib.hid hk
  have HN := Lib.hid hn
  have HM := Lib.hid hm
  clear hk hn hm hs hc1 hc2
  cases b1
  all_goals cases b2
  all_goals
    go_enter Tryd.func9, Tryd.ntmps9
    go_wp2_with fail
    refine (awake_any _ KK.out.2.2.1).mono ?_
    rintro e w1 ⟨rfl, hb1⟩
    have K1 := Lib.hid (KK.out.keep hb1)
    clear hb1 KK
    go_wp2_with fail
    refine (plain_any a1 n c v _ K1.out.1 HN.out (by omega)).mono ?_
    rintro e w2 ⟨B2, k2, d2, rfl, hr2, hl2, hb2⟩
    have K2 := Lib.hid (K1.out.keep hb2)
    have R2 := Lib.hid hr2
    have L2 := Lib.hid hl2
    have hk2 : k2 ≤ 1000000000 := by omega
    clear hb2 hr2 hl2 K1
    go_wp2_with fail
    refine (plain_any a2 m d u _ K2.out.2.1 HM.out (by omega)).mono ?_
    rintro e w3 ⟨B3, k3, d3, rfl, hr3, hl3, hb3⟩
    have K3 := Lib.hid (K2.out.keep hb3)
    have R3 := Lib.hid (R2.out.keep hb3)
    have R4 := Lib.hid hr3
    have L3 := Lib.hid hl3
    have hk3 : k3 ≤ 1000000000 := by omega
    clear hb3 hr3 hl3 K2 R2
    go_wp2_with fail
    refine (same_any B2 B3 k2 k3 d2 d3 (plainL v) (plainL u) _ R3.out R4.out L2.out L3.out hk2 hk3).mono ?_
    rintro e w4 ⟨rfl, hb4⟩
    rw [HS.out]
    have K4 := Lib.hid (K3.out.keep hb4)
    clear hb4 K3 R3 R4
    go_wp2_with fail
    refine (covers_any a1 a2 n m c d v u _ K4.out.1 K4.out.2.1 HN.out HM.out (by omega) (by omega)).mono ?_
    rintro e w5 ⟨rfl, rfl⟩
    rw [H1.out]
    go_wp2_with fail
    try (refine (covers_any a2 a1 m n d c u v _ K4.out.2.1 K4.out.1 HM.out HN.out (by omega) (by omega)).mono ?_
         rintro e w5 ⟨rfl, rfl⟩
         rw [H2.out]
         go_wp2_with fail)
    refine (merge_any a1 a2 n m c d v u _ K4.out.1 K4.out.2.1 HN.out HM.out (by omega) (by omega)).mono ?_
    rintro e w6 ⟨B6, k6, d6, rfl, hr6, hl6, hb6⟩
    have K6 := Lib.hid (K4.out.keep hb6)
    have R6 := Lib.hid hr6
    have L6 := Lib.hid hl6
    have hk6 : k6 ≤ 1000000000 := by omega
    clear hb6 hr6 hl6 K4
    go_wp2_with fail
    refine (merge_turn a1 a2 n m c d v u _ K6.out.1 K6.out.2.1 HN.out HM.out (by omega) (by omega)).mono ?_
    rintro e w7 ⟨B7, k7, d7, rfl, hr7, hl7, hb7⟩
    obtain rfl : k7 = k6 := by rw [← hl7, L6.out]
    have K7 := Lib.hid (K6.out.keep hb7)
    have R7 := Lib.hid (R6.out.keep hb7)
    have R8 := Lib.hid hr7
    clear hb7 hr7 hl7 K6 R6
    go_wp2_with fail
    refine (same_self R7.out R8.out L6.out hk6).mono ?_
    rintro e w8 ⟨rfl, hb8⟩
    have K8 := Lib.hid (K7.out.keep hb8)
    clear hb8 K7 R7 R8
    go_wp2_with fail
    refine (plain_any a1 n c v _ K8.out.1 HN.out (by omega)).mono ?_
    rintro e w9 ⟨B9, k9, d9, rfl, hr9, hl9, hb9⟩
    have K9 := Lib.hid (K8.out.keep hb9)
    have R9 := Lib.hid hr9
    have L9 := Lib.hid hl9
    have hk9 : k9 ≤ 1000000000 := by omega
    clear hb9 hr9 hl9 K8
    go_wp2_with fail
    refine (plain_again B9 k9 d9 v _ R9.out L9.out hk9).mono ?_
    rintro e w10 ⟨B10, k10, d10, rfl, hr10, hl10, hb10⟩
    obtain rfl : k10 = k9 := by rw [← hl10, L9.out]
    have K10 := Lib.hid (K9.out.keep hb10)
    have R10 := Lib.hid hr10
    clear hb10 hr10 hl10 K9 R9
    go_wp2_with fail
    refine (plain_any a1 n c v _ K10.out.1 HN.out (by omega)).mono ?_
    rintro e w11 ⟨B11, k11, d11, rfl, hr11, hl11, hb11⟩
    obtain rfl : k11 = k10 := by rw [← hl11, L9.out]
    have K11 := Lib.hid (K10.out.keep hb11)
    have R11 := Lib.hid (R10.out.keep hb11)
    have R12 := Lib.hid hr11
    clear hb11 hr11 hl11 K10 R10
    go_wp2_with fail
    refine (same_self R11.out R12.out L9.out hk9).mono ?_
    rintro e w12 ⟨rfl, hb12⟩
    have K12 := Lib.hid (K11.out.keep hb12)
    clear hb12 K11 R11 R12
    go_wp2
    go_ret
    exact ⟨rfl, K12.out.2.2.2⟩

theorem lawSame (w : World) (he : Env w) (a1 : Option Addr) (n c : Nat) (zs : List Int) (h1 : IsRow .i64 w a1 n c zs) (g1 : c * 8 ≤ 140737488351232) (a2 : Option Addr) (m d : Nat) (ys : List Int) (h2 : IsRow .i64 w a2 m d ys) (g2 : d * 8 ≤ 140737488351232) :
    Calls Tryd.prog 9 #[.slice a1 n c, .slice a2 m d] w fun e w' => e = .returned (.bool true) ∧ Below w.heap.size w w' := by
  by_cases h : 100 < n ∨ (¬ 100 < n ∧ 100 < m)
  · exact same_long w he a1 a2 n m c d h
  · obtain ⟨p1, p2, p3, p4⟩ := row_in h1
    obtain ⟨q1, q2, q3, q4⟩ := row_in h2
    exact same_in w a1 a2 n m c d _ _ ⟨p1, q1, he, Below.refl _ _⟩ p2 q2 (by omega) (by omega) _ _ rfl rfl

end Go.Proofs.YticiolhfoeenmaaDoor.S5
