/-
  Layer 5: what is asked of vectors, by the program and by the document.
-/
import Derived.Test.YticiolhfoeenmaaDoorS5u
namespace Go.Proofs.YticiolhfoeenmaaDoor.S5
open Go.RowKit Go.PlainAid Go.Shelf M5
set_option linter.unusedVariables false

/-- Two vectors that came in, and what is read of the variables, while calls are made. -/
def Vec (w : World) (a1 a2 : Option Addr) (v u : List Int) (a : World) : Prop := Rd a a1 (is v) ∧ Rd a a2 (is u) ∧ Env a ∧ Below w.heap.size w a
theorem Vec.keep {w : World} {a1 a2 : Option Addr} {v u : List Int} {a a' : World} (h : Vec w a1 a2 v u a) (hb : Below a.heap.size a a') : Vec w a1 a2 v u a' :=
  ⟨h.1.keep hb, h.2.1.keep hb, h.2.2.1.keep hb, chain h.2.2.2 hb⟩
theorem withR_len (v : List Int) (r n : Int) : (withR v r n).1.length ≤ v.length + 16 := by
  by_cases h : r < 1 ∨ 16 < r
  · rw [withR_out h]; simp
  · rw [withR_in (by omega) (by omega)]
    have := plainL_le (putN v (r - 1).toNat n (max v.length r.toNat))
    rw [putN_len] at this
    show (plainL (putN v (r - 1).toNat n (max v.length r.toNat))).length ≤ _
    omega
theorem refWith_as {A : Option Addr} {n c : Nat} {v l : List Int} {r y x : Int} (h : withR v r y = (l, x)) {w : World} (hr : Rd w A (is v)) (hn : v.length = n) (hle : n ≤ 1000000000) :
    Calls Tryd.prog 24 #[.slice A n c, .int .i64 r, .int .i64 y] w (RetVecE l x w) := by
  have := refWith_any A n c v r y w hr hn hle
  rw [h] at this
  exact this
theorem same_self {A B : Option Addr} {k c d : Nat} {l : List Int} {w : World} (ha : Rd w A (is l)) (hb : Rd w B (is l)) (hn : l.length = k) (hle : k ≤ 1000000000) :
    Calls Tryd.prog 25 #[.slice A k c, .slice B k d] w fun e w' => e = .returned (.bool true) ∧ Below w.heap.size w w' := by
  have := same_any A B k k c d l l w ha hb hn hn hle hle
  rw [decide_eq_true rfl] at this
  exact this
/-- A call that hands back a vector. -/
def RetVec (l : List Int) (w : World) (e : Ending) (w' : World) : Prop := ∃ B k d, e = .returned (.slice B k d) ∧ Rd w' B (is l) ∧ l.length = k ∧ Below w.heap.size w w'

theorem row_in {w : World} {a : Option Addr} {len cap : Nat} {zs : List Int} (h : IsRow .i64 w a len cap zs) : Rd w a (is (zs.take len)) ∧ (zs.take len).length = len ∧ len ≤ cap ∧ cap ≤ 9223372036854775807 := by
  obtain ⟨h1, h2, h3⟩ := Rd.of_row h
  refine ⟨h1, h2, ?_⟩
  rcases h with ⟨_, rfl, rfl, _⟩ | ⟨_, _, h4, h5, _⟩
  · exact ⟨Nat.le_refl _, by omega⟩
  · exact ⟨h4, by unfold maxLen at h5; omega⟩

set_option maxRecDepth 100000 in
set_option maxHeartbeats 1000000 in
theorem vectors_long (w : World) (he : Env w) (a1 a2 : Option Addr) (n m c d : Nat) (r y : Int) (h : 100 < n ∨ 100 < m) :
    Calls Tryd.prog 5 #[.slice a1 n c, .slice a2 m d, .int .i64 r, .int .i64 y] w fun e w' => e = .returned (.bool true) ∧ Below w.heap.size w w' := by
  have HE := Lib.hid he
  clear he
  rcases h with h | h
  · go_enter Tryd.func5, Tryd.ntmps5
    go_wp2_with fail
    refine (awake_any _ HE.out).mono ?_
    rintro e w1 ⟨rfl, hb1⟩
    go_wp2
    go_ret
    exact ⟨rfl, hb1⟩
  · by_cases h1 : 100 < n
    all_goals
      go_enter Tryd.func5, Tryd.ntmps5
      go_wp2_with fail
      refine (awake_any _ HE.out).mono ?_
      rintro e w1 ⟨rfl, hb1⟩
      go_wp2
      go_ret
      exact ⟨rfl, hb1⟩

set_option maxRecDepth 100000 in
set_option maxHeartbeats 4000000 in
theorem vectors_in (w : World) (a1 a2 : Option Addr) (n m c d : Nat) (v u : List Int) (r y : Int) (hk : Vec w a1 a2 v u w) (hn : v.length = n) (hm : u.length = m) (hnc : n ≤ c) (hc : c ≤ 9223372036854775807) (h1 : n ≤ 100) (h2 : m ≤ 100) (hr : r ≤ 9223372036854775807) :
    Calls Tryd.prog 5 #[.slice a1 n c, .slice a2 m d, .int .i64 r, .int .i64 y] w fun e w' => e = .returned (.bool true) ∧ Below w.heap.size w w' := by
  obtain ⟨l, x, hw⟩ : ∃ l x, withR v r y = (l, x) := ⟨_, _, rfl⟩
  have hll : l.length ≤ 1000 := by have := withR_len v r y; rw [hw] at this; simp at this; omega
  have HW := Lib.hid hw
  have K0 := Lib.hid hk
  have HN := Lib.hid hn
  have HM := Lib.hid hm
  have hmg : (mergeL v u).length ≤ 100 := by have := togL_len max v u; unfold mergeL; omega
  have hmt : (meetL v u).length ≤ 100 := by have := togL_len min v u; unfold meetL; omega
  have hpl : (plainL v).length ≤ 100 := by have := plainL_le v; omega
  clear hw hk hn hm
  go_enter Tryd.func5, Tryd.ntmps5
  go_wp2_with fail
  refine (with_as HW.out K0.out.1 HN.out (by omega)).mono ?_
  rintro e w1 ⟨B1, k1, d1, rfl, hr1, hl1, hb1⟩
  have K1 := Lib.hid (K0.out.keep hb1)
  have R1 := Lib.hid hr1
  have L1 := Lib.hid hl1
  have hk1 : k1 ≤ 1000000000 := by omega
  clear hb1 hr1 hl1 K0
  go_wp2_with fail
  refine (refWith_as HW.out K1.out.1 HN.out (by omega)).mono ?_
  rintro e w2 ⟨B2, k2, d2, rfl, hr2, hl2, hb2⟩
  obtain rfl : k2 = k1 := by rw [← hl2, L1.out]
  have K2 := Lib.hid (K1.out.keep hb2)
  have R2 := Lib.hid (R1.out.keep hb2)
  have R3 := Lib.hid hr2
  clear hb2 hr2 hl2 K1 R1
  go_wp2_with fail
  refine (same_self R2.out R3.out L1.out hk1).mono ?_
  rintro e w3 ⟨rfl, hb3⟩
  have K3 := Lib.hid (K2.out.keep hb3)
  clear hb3 K2 R2 R3
  go_wp2_with fail
  refine (prAt_any a1 n c v r _ K3.out.1 HN.out (by omega) hr).mono ?_
  rintro e w4 ⟨rfl, rfl⟩
  go_wp2_with fail
  refine (refAt_any a1 n c v r _ K3.out.1 HN.out (by omega) hr).mono ?_
  rintro e w4 ⟨rfl, rfl⟩
  generalize atL v r = q0
  go_wp2_with fail
  refine (covers_any a1 a2 n m c d v u _ K3.out.1 K3.out.2.1 HN.out HM.out (by omega) (by omega)).mono ?_
  rintro e w4 ⟨rfl, rfl⟩
  go_wp2_with fail
  refine (refCovers_any a1 a2 n m c d v u _ K3.out.1 K3.out.2.1 HN.out HM.out (by omega) (by omega)).mono ?_
  rintro e w4 ⟨rfl, rfl⟩
  generalize coversL v u = q1
  go_wp2_with fail
  refine (vector_any a1 n c v _ K3.out.1 HN.out (by omega)).mono ?_
  rintro e w4 ⟨rfl, rfl⟩
  go_wp2_with fail
  refine (refVector_any a1 n c v _ K3.out.1 HN.out hnc hc (by omega)).mono ?_
  rintro e w4 ⟨rfl, hb4⟩
  generalize vectorL v = q2
  have K4 := Lib.hid (K3.out.keep hb4)
  clear hb4 K3
  go_wp2_with fail
  refine (awake_any _ K4.out.2.2.1).mono ?_
  rintro e w5 ⟨rfl, hb5⟩
  have K5 := Lib.hid (K4.out.keep hb5)
  clear hb5 K4
  go_wp2_with fail
  refine (plain_any a1 n c v _ K5.out.1 HN.out (by omega)).mono ?_
  rintro e w6 ⟨B6, k6, d6, rfl, hr6, hl6, hb6⟩
  have K6 := Lib.hid (K5.out.keep hb6)
  have R6 := Lib.hid hr6
  have L6 := Lib.hid hl6
  have hk6 : k6 ≤ 1000000000 := by omega
  clear hb6 hr6 hl6 K5
  go_wp2_with fail
  refine (refPlain_any a1 n c v _ K6.out.1 HN.out hnc hc (by omega)).mono ?_
  rintro e w7 ⟨k7, rfl, hr7, hl7, rfl⟩
  obtain rfl : k7 = k6 := by rw [← hl7, L6.out]
  have R7 := Lib.hid hr7
  clear hr7 hl7
  go_wp2_with fail
  refine (same_self R6.out R7.out L6.out hk6).mono ?_
  rintro e w8 ⟨rfl, hb8⟩
  have K8 := Lib.hid (K6.out.keep hb8)
  clear hb8 K6 R6 R7
  go_wp2_with fail
  refine (merge_any a1 a2 n m c d v u _ K8.out.1 K8.out.2.1 HN.out HM.out (by omega) (by omega)).mono ?_
  rintro e w9 ⟨B9, k9, d9, rfl, hr9, hl9, hb9⟩
  have K9 := Lib.hid (K8.out.keep hb9)
  have R9 := Lib.hid hr9
  have L9 := Lib.hid hl9
  have hk9 : k9 ≤ 1000000000 := by omega
  clear hb9 hr9 hl9 K8
  go_wp2_with fail
  refine (refMerge_any a1 a2 n m c d v u _ K9.out.1 K9.out.2.1 HN.out HM.out (by omega) (by omega)).mono ?_
  rintro e w10 ⟨B10, k10, d10, rfl, hr10, hl10, hb10⟩
  obtain rfl : k10 = k9 := by rw [← hl10, L9.out]
  have K10 := Lib.hid (K9.out.keep hb10)
  have R10 := Lib.hid (R9.out.keep hb10)
  have R11 := Lib.hid hr10
  clear hb10 hr10 hl10 K9 R9
  go_wp2_with fail
  refine (same_self R10.out R11.out L9.out hk9).mono ?_
  rintro e w11 ⟨rfl, hb11⟩
  have K11 := Lib.hid (K10.out.keep hb11)
  clear hb11 K10 R10 R11
  go_wp2_with fail
  refine (meet_any a1 a2 n m c d v u _ K11.out.1 K11.out.2.1 HN.out HM.out (by omega) (by omega)).mono ?_
  rintro e w12 ⟨B12, k12, d12, rfl, hr12, hl12, hb12⟩
  have K12 := Lib.hid (K11.out.keep hb12)
  have R12 := Lib.hid hr12
  have L12 := Lib.hid hl12
  have hk12 : k12 ≤ 1000000000 := by omega
  clear hb12 hr12 hl12 K11
  go_wp2_with fail
  refine (refMeet_any a1 a2 n m c d v u _ K12.out.1 K12.out.2.1 HN.out HM.out (by omega) (by omega)).mono ?_
  rintro e w13 ⟨B13, k13, d13, rfl, hr13, hl13, hb13⟩
  obtain rfl : k13 = k12 := by rw [← hl13, L12.out]
  have K13 := Lib.hid (K12.out.keep hb13)
  have R13 := Lib.hid (R12.out.keep hb13)
  have R14 := Lib.hid hr13
  clear hb13 hr13 hl13 K12 R12
  go_wp2_with fail
  refine (same_self R13.out R14.out L12.out hk12).mono ?_
  rintro e w14 ⟨rfl, hb14⟩
  have K14 := Lib.hid (K13.out.keep hb14)
  clear hb14 K13 R13 R14
  go_wp2
  go_ret
  exact ⟨rfl, K14.out.2.2.2⟩

theorem lawVectors (w : World) (he : Env w) (a1 : Option Addr) (n c : Nat) (zs : List Int) (h1 : IsRow .i64 w a1 n c zs) (g1 : c * 8 ≤ 140737488351232) (a2 : Option Addr) (m d : Nat) (ys : List Int) (h2 : IsRow .i64 w a2 m d ys) (g2 : d * 8 ≤ 140737488351232)
    (r : Int) (r1 : -9223372036854775808 ≤ r) (r2 : r ≤ 9223372036854775807) (y : Int) (y1 : -9223372036854775808 ≤ y) (y2 : y ≤ 9223372036854775807) :
    Calls Tryd.prog 5 #[.slice a1 n c, .slice a2 m d, .int .i64 r, .int .i64 y] w fun e w' => e = .returned (.bool true) ∧ Below w.heap.size w w' := by
  by_cases h : 100 < n ∨ 100 < m
  · exact vectors_long w he a1 a2 n m c d r y h
  · obtain ⟨p1, p2, p3, p4⟩ := row_in h1
    obtain ⟨q1, q2, q3, q4⟩ := row_in h2
    exact vectors_in w a1 a2 n m c d _ _ r y ⟨p1, q1, he, Below.refl _ _⟩ p2 q2 p3 p4 (by omega) (by omega) r2

end Go.Proofs.YticiolhfoeenmaaDoor.S5
