/-
  Layer 5: the merged vector is the least that covers both, the met one the greatest that both cover.
-/
import Derived.Test.YticiolhfoeenmaaDoorS5v
namespace Go.Proofs.YticiolhfoeenmaaDoor.S5
open Go.RowKit Go.PlainAid Go.Shelf M5
set_option linter.unusedVariables false

set_option maxRecDepth 100000 in
set_option maxHeartbeats 1000000 in
theorem bounds_long (w : World) (he : Env w) (a1 a2 a3 : Option Addr) (n m o c d f : Nat) (h : 100 < n ∨ (¬ 100 < n ∧ 100 < m) ∨ (¬ 100 < n ∧ ¬ 100 < m ∧ 100 < o)) :
    Calls Tryd.prog 8 #[.slice a1 n c, .slice a2 m d, .slice a3 o f] w fun e w' => e = .returned (.bool true) ∧ Below w.heap.size w w' := by
  have HE := Lib.hid he
  clear he
  rcases h with h | ⟨h, h2⟩ | ⟨h, h2, h3⟩
  all_goals
    go_enter Tryd.func8, Tryd.ntmps8
    go_wp2_with fail
    refine (awake_any _ HE.out).mono ?_
    rintro e w1 ⟨rfl, hb1⟩
    go_wp2
    go_ret
    exact ⟨rfl, hb1⟩

set_option maxRecDepth 100000 in
set_option maxHeartbeats 4000000 in
theorem bounds_in (w : World) (a1 a2 a3 : Option Addr) (n m o c d f : Nat) (v u x : List Int) (hk : Vec w a1 a2 v u w) (hx : Rd w a3 (is x)) (hn : v.length = n) (hm : u.length = m) (ho : x.length = o) (h1 : n ≤ 100) (h2 : m ≤ 100) (h3 : o ≤ 100) :
    Calls Tryd.prog 8 #[.slice a1 n c, .slice a2 m d, .slice a3 o f] w fun e w' => e = .returned (.bool true) ∧ Below w.heap.size w w' := by
  have hmg : (mergeL v u).length ≤ 100 := by have := togL_len max v u; unfold mergeL; omega
  have hmt : (meetL v u).length ≤ 100 := by have := togL_len min v u; unfold meetL; omega
  have C1 := Lib.hid (bounds_merge v u)
  have C2 := Lib.hid (bounds_meet v u)
  have KK := Lib.hid hk
  have XX := Lib.hid hx
  have HN := Lib.hid hn
  have HM := Lib.hid hm
  have HX := Lib.hid ho
  clear hk hx hn hm ho
  go_enter Tryd.func8, Tryd.ntmps8
  go_wp2_with fail
  refine (awake_any _ KK.out.2.2.1).mono ?_
  rintro e w1 ⟨rfl, hb1⟩
  have K0 := Lib.hid (KK.out.keep hb1)
  have X0 := Lib.hid (XX.out.keep hb1)
  clear hb1 KK XX
  go_wp2
  go_loop [8] (fun i => ∃ k : Nat, k ≤ n ∧ i = .int .i64 (k : Int)) (fun i => n - (intOf i).toNat)
  case atStart => exact ⟨0, by omega, rfl⟩
  case round =>
    obtain ⟨k, hk, rfl⟩ := hrel
    by_cases hlt : k < n
    · obtain ⟨b, off, y, rfl, hb, hc, HY⟩ := rd_at K0.out.1 (k := k) (by rw [HN.out]; exact hlt)
      by_cases hneg : y < 0
      · go_wp2
        go_ret
        exact ⟨rfl, K0.out.2.2.2⟩
      · go_wp2
        go_round
        case rel => exact ⟨k + 1, by omega, by go_num⟩
        case measure => simp [intOf]; omega
    · obtain rfl : k = n := by omega
      go_wp2
      go_loop [9] (fun i => ∃ j : Nat, j ≤ m ∧ i = .int .i64 (j : Int)) (fun i => m - (intOf i).toNat)
      case atStart => exact ⟨0, by omega, rfl⟩
      case round =>
        obtain ⟨j, hj, rfl⟩ := hrel
        by_cases hlt2 : j < m
        · obtain ⟨b, off, y, rfl, hb, hc, HY⟩ := rd_at K0.out.2.1 (k := j) (by rw [HM.out]; exact hlt2)
          by_cases hneg : y < 0
          · go_wp2
            go_ret
            exact ⟨rfl, K0.out.2.2.2⟩
          · go_wp2
            go_round
            case rel => exact ⟨j + 1, by omega, by go_num⟩
            case measure => simp [intOf]; omega
        · obtain rfl : j = m := by omega
          go_wp2_with fail
          refine (merge_any a1 a2 _ _ c d v u _ K0.out.1 K0.out.2.1 HN.out HM.out (by omega) (by omega)).mono ?_
          rintro e w3 ⟨B3, km, d3, rfl, hr3, hl3, hb3⟩
          have K1 := Lib.hid (K0.out.keep hb3)
          have X1 := Lib.hid (X0.out.keep hb3)
          have R3 := Lib.hid hr3
          have LM := Lib.hid hl3
          have hkm : km ≤ 1000000000 := by omega
          clear hb3 hr3 hl3 K0 X0
          go_wp2_with fail
          refine (meet_any a1 a2 _ _ c d v u _ K1.out.1 K1.out.2.1 HN.out HM.out (by omega) (by omega)).mono ?_
          rintro e w4 ⟨B4, kn, d4, rfl, hr4, hl4, hb4⟩
          have K := Lib.hid (K1.out.keep hb4)
          have XR := Lib.hid (X1.out.keep hb4)
          have RM := Lib.hid (R3.out.keep hb4)
          have RN := Lib.hid hr4
          have LN := Lib.hid hl4
          have hkn : kn ≤ 1000000000 := by omega
          clear hb4 hr4 hl4 K1 X1 R3
          go_wp2_with fail
          refine (covers_any _ _ _ _ _ _ (mergeL v u) v _ RM.out K.out.1 LM.out HN.out hkm (by omega)).mono ?_
          rintro e w9 ⟨rfl, rfl⟩
          rw [C1.out.1]
          go_wp2_with fail
          refine (covers_any _ _ _ _ _ _ (mergeL v u) u _ RM.out K.out.2.1 LM.out HM.out hkm (by omega)).mono ?_
          rintro e w9 ⟨rfl, rfl⟩
          rw [C1.out.2]
          go_wp2_with fail
          refine (covers_any _ _ _ _ _ _ v (meetL v u) _ K.out.1 RN.out HN.out LN.out (by omega) hkn).mono ?_
          rintro e w9 ⟨rfl, rfl⟩
          rw [C2.out.1]
          go_wp2_with fail
          refine (covers_any _ _ _ _ _ _ u (meetL v u) _ K.out.2.1 RN.out HM.out LN.out (by omega) hkn).mono ?_
          rintro e w9 ⟨rfl, rfl⟩
          rw [C2.out.2]
          cases h1 : coversL x v
          · have H1 := Lib.hid h1
            clear h1
            go_wp2_with fail
            refine (covers_any _ _ _ _ _ _ x v _ XR.out K.out.1 HX.out HN.out (by omega) (by omega)).mono ?_
            rintro e w9 ⟨rfl, rfl⟩
            rw [H1.out]
            cases h3 : coversL v x
            · have H3 := Lib.hid h3
              clear h3
              go_wp2_with fail
              refine (covers_any _ _ _ _ _ _ v x _ K.out.1 XR.out HN.out HX.out (by omega) (by omega)).mono ?_
              rintro e w9 ⟨rfl, rfl⟩
              rw [H3.out]
              go_wp2
              go_ret
              exact ⟨rfl, K.out.2.2.2⟩
            · have H3 := Lib.hid h3
              clear h3
              go_wp2_with fail
              refine (covers_any _ _ _ _ _ _ v x _ K.out.1 XR.out HN.out HX.out (by omega) (by omega)).mono ?_
              rintro e w9 ⟨rfl, rfl⟩
              rw [H3.out]
              cases h4 : coversL u x
              · have H4 := Lib.hid h4
                clear h4
                go_wp2_with fail
                refine (covers_any _ _ _ _ _ _ u x _ K.out.2.1 XR.out HM.out HX.out (by omega) (by omega)).mono ?_
                rintro e w9 ⟨rfl, rfl⟩
                rw [H4.out]
                go_wp2
                go_ret
                exact ⟨rfl, K.out.2.2.2⟩
              · have H4 := Lib.hid h4
                have H5 := Lib.hid (greatest H3.out h4)
                clear h4
                go_wp2_with fail
                refine (covers_any _ _ _ _ _ _ u x _ K.out.2.1 XR.out HM.out HX.out (by omega) (by omega)).mono ?_
                rintro e w9 ⟨rfl, rfl⟩
                rw [H4.out]
                go_wp2_with fail
                refine (covers_any _ _ _ _ _ _ (meetL v u) x _ RN.out XR.out LN.out HX.out hkn (by omega)).mono ?_
                rintro e w9 ⟨rfl, rfl⟩
                rw [H5.out]
                go_wp2
                go_ret
                exact ⟨rfl, K.out.2.2.2⟩
          · have H1 := Lib.hid h1
            clear h1
            go_wp2_with fail
            refine (covers_any _ _ _ _ _ _ x v _ XR.out K.out.1 HX.out HN.out (by omega) (by omega)).mono ?_
            rintro e w9 ⟨rfl, rfl⟩
            rw [H1.out]
            cases h2 : coversL x u
            · have H2 := Lib.hid h2
              clear h2
              go_wp2_with fail
              refine (covers_any _ _ _ _ _ _ x u _ XR.out K.out.2.1 HX.out HM.out (by omega) (by omega)).mono ?_
              rintro e w9 ⟨rfl, rfl⟩
              rw [H2.out]
              cases h3 : coversL v x
              · have H3 := Lib.hid h3
                clear h3
                go_wp2_with fail
                refine (covers_any _ _ _ _ _ _ v x _ K.out.1 XR.out HN.out HX.out (by omega) (by omega)).mono ?_
                rintro e w9 ⟨rfl, rfl⟩
                rw [H3.out]
                go_wp2
                go_ret
                exact ⟨rfl, K.out.2.2.2⟩
              · have H3 := Lib.hid h3
                clear h3
                go_wp2_with fail
                refine (covers_any _ _ _ _ _ _ v x _ K.out.1 XR.out HN.out HX.out (by omega) (by omega)).mono ?_
                rintro e w9 ⟨rfl, rfl⟩
                rw [H3.out]
                cases h4 : coversL u x
                · have H4 := Lib.hid h4
                  clear h4
                  go_wp2_with fail
                  refine (covers_any _ _ _ _ _ _ u x _ K.out.2.1 XR.out HM.out HX.out (by omega) (by omega)).mono ?_
                  rintro e w9 ⟨rfl, rfl⟩
                  rw [H4.out]
                  go_wp2
                  go_ret
                  exact ⟨rfl, K.out.2.2.2⟩
                · have H4 := Lib.hid h4
                  have H5 := Lib.hid (greatest H3.out h4)
                  clear h4
                  go_wp2_with fail
                  refine (covers_any _ _ _ _ _ _ u x _ K.out.2.1 XR.out HM.out HX.out (by omega) (by omega)).mono ?_
                  rintro e w9 ⟨rfl, rfl⟩
                  rw [H4.out]
                  go_wp2_with fail
                  refine (covers_any _ _ _ _ _ _ (meetL v u) x _ RN.out XR.out LN.out HX.out hkn (by omega)).mono ?_
                  rintro e w9 ⟨rfl, rfl⟩
                  rw [H5.out]
                  go_wp2
                  go_ret
                  exact ⟨rfl, K.out.2.2.2⟩
            · have H2 := Lib.hid h2
              have H6 := Lib.hid (least H1.out h2)
              clear h2
              go_wp2_with fail
              refine (covers_any _ _ _ _ _ _ x u _ XR.out K.out.2.1 HX.out HM.out (by omega) (by omega)).mono ?_
              rintro e w9 ⟨rfl, rfl⟩
              rw [H2.out]
              go_wp2_with fail
              refine (covers_any _ _ _ _ _ _ x (mergeL v u) _ XR.out RM.out HX.out LM.out (by omega) hkm).mono ?_
              rintro e w9 ⟨rfl, rfl⟩
              rw [H6.out]
              cases h3 : coversL v x
              · have H3 := Lib.hid h3
                clear h3
                go_wp2_with fail
                refine (covers_any _ _ _ _ _ _ v x _ K.out.1 XR.out HN.out HX.out (by omega) (by omega)).mono ?_
                rintro e w9 ⟨rfl, rfl⟩
                rw [H3.out]
                go_wp2
                go_ret
                exact ⟨rfl, K.out.2.2.2⟩
              · have H3 := Lib.hid h3
                clear h3
                go_wp2_with fail
                refine (covers_any _ _ _ _ _ _ v x _ K.out.1 XR.out HN.out HX.out (by omega) (by omega)).mono ?_
                rintro e w9 ⟨rfl, rfl⟩
                rw [H3.out]
                cases h4 : coversL u x
                · have H4 := Lib.hid h4
                  clear h4
                  go_wp2_with fail
                  refine (covers_any _ _ _ _ _ _ u x _ K.out.2.1 XR.out HM.out HX.out (by omega) (by omega)).mono ?_
                  rintro e w9 ⟨rfl, rfl⟩
                  rw [H4.out]
                  go_wp2
                  go_ret
                  exact ⟨rfl, K.out.2.2.2⟩
                · have H4 := Lib.hid h4
                  have H5 := Lib.hid (greatest H3.out h4)
                  clear h4
                  go_wp2_with fail
                  refine (covers_any _ _ _ _ _ _ u x _ K.out.2.1 XR.out HM.out HX.out (by omega) (by omega)).mono ?_
                  rintro e w9 ⟨rfl, rfl⟩
                  rw [H4.out]
                  go_wp2_with fail
                  refine (covers_any _ _ _ _ _ _ (meetL v u) x _ RN.out XR.out LN.out HX.out hkn (by omega)).mono ?_
                  rintro e w9 ⟨rfl, rfl⟩
                  rw [H5.out]
                  go_wp2
                  go_ret
                  exact ⟨rfl, K.out.2.2.2⟩

theorem lawBounds (w : World) (he : Env w) (a1 : Option Addr) (n c : Nat) (zs : List Int) (h1 : IsRow .i64 w a1 n c zs) (g1 : c * 8 ≤ 140737488351232) (a2 : Option Addr) (m d : Nat) (ys : List Int) (h2 : IsRow .i64 w a2 m d ys) (g2 : d * 8 ≤ 140737488351232)
    (a3 : Option Addr) (o f : Nat) (xs : List Int) (h3 : IsRow .i64 w a3 o f xs) (g3 : f * 8 ≤ 140737488351232) :
    Calls Tryd.prog 8 #[.slice a1 n c, .slice a2 m d, .slice a3 o f] w fun e w' => e = .returned (.bool true) ∧ Below w.heap.size w w' := by
  by_cases h : 100 < n ∨ (¬ 100 < n ∧ 100 < m) ∨ (¬ 100 < n ∧ ¬ 100 < m ∧ 100 < o)
  · exact bounds_long w he a1 a2 a3 n m o c d f h
  · obtain ⟨p1, p2, p3, p4⟩ := row_in h1
    obtain ⟨q1, q2, q3, q4⟩ := row_in h2
    obtain ⟨r1, r2, r3, r4⟩ := row_in h3
    exact bounds_in w a1 a2 a3 n m o c d f _ _ _ ⟨p1, q1, he, Below.refl _ _⟩ r1 p2 q2 r2 (by omega) (by omega) (by omega)

end Go.Proofs.YticiolhfoeenmaaDoor.S5
