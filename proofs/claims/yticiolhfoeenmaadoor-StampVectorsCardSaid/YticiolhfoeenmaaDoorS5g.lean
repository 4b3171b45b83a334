/-
  Layer 5, walks: a vector with another number; the same numbers; whether numbers may be a vector.
-/
import Derived.Test.YticiolhfoeenmaaDoorS5f
namespace Go.Proofs.YticiolhfoeenmaaDoor.S5
open Go.RowKit Go.PlainAid Go.Shelf M5
set_option linter.unusedVariables false

theorem same_len {v u : List Int} (h : v.length ≠ u.length) : decide (v = u) = false := by
  simp only [decide_eq_false_iff_not]
  rintro rfl; exact h rfl
theorem same_not {v u : List Int} {k : Nat} (h : v.getD k 0 ≠ u.getD k 0) : decide (v = u) = false := by
  simp only [decide_eq_false_iff_not]
  rintro rfl; exact h rfl
theorem same_all {v u : List Int} (hl : v.length = u.length) (h : ∀ j, j < v.length → v.getD j 0 = u.getD j 0) : decide (v = u) = true := by
  simp only [decide_eq_true_eq]
  refine list_ext hl fun k => ?_
  by_cases hk : k < v.length
  · exact h k hk
  · rw [getD_far (by omega), getD_far (by omega)]
theorem eq_on {v w : List Int} {k : Nat} (h : ∀ j, j < k → v.getD j 0 = w.getD j 0) (hk : v.getD k 0 = w.getD k 0) : ∀ j, j < k + 1 → v.getD j 0 = w.getD j 0 := by
  intro j hj
  by_cases e : j = k
  · rw [e]; exact hk
  · exact h j (by omega)

set_option maxRecDepth 100000 in
set_option maxHeartbeats 400000 in
theorem same_any (A B : Option Addr) (n m c d : Nat) (v u : List Int) (w : World) (ha : Rd w A (is v)) (hb : Rd w B (is u)) (hn : v.length = n) (hm : u.length = m) (hle : n ≤ 1000000000) (hlm : m ≤ 1000000000) :
    Calls Tryd.prog 25 #[.slice A n c, .slice B m d] w fun e w' => e = .returned (.bool (decide (v = u))) ∧ Below w.heap.size w w' := by
  by_cases hnm : n = m
  · subst hnm
    have HA := Lib.hid ha
    have HB := Lib.hid hb
    have HN := Lib.hid hn
    have HM := Lib.hid hm
    clear ha hb hn hm
    go_enter Tryd.func25, Tryd.ntmps25
    go_wp2
    go_loopw [5] (fun i wr => ∃ k : Nat, k ≤ n ∧ i = .int .i64 (k : Int) ∧ Hid (∀ j, j < k → v.getD j 0 = u.getD j 0) ∧ Below w.heap.size w wr) (fun i _ => n - (intOf i).toNat)
    case atStart => exact ⟨0, by omega, rfl, fun j h => by omega, Below.refl _ _⟩
    case round =>
      obtain ⟨k, hk, rfl, HK, hbw⟩ := hrel
      have hbn : ∀ n, Below w.heap.size w (wr.drewN n) := fun n => below_drewN hbw n
      have HBN := Lib.hid hbn
      clear hbn
      by_cases hlt : k < n
      · have h1 := rd_at (HA.out.keep hbw) (k := k) (by rw [HN.out]; exact hlt)
        have h2 := rd_at (HB.out.keep hbw) (k := k) (by rw [HM.out]; exact hlt)
        obtain ⟨b, off, x, rfl, hbl, hc, HX⟩ := h1
        obtain ⟨b', off', y, rfl, hbl', hc', HY⟩ := h2
        by_cases hxy : x = y
        · subst hxy
          have HK2 : Hid (∀ j, j < k + 1 → v.getD j 0 = u.getD j 0) := eq_on HK.out (by rw [HX.out, HY.out])
          go_wp2
          go_quiet (fail)
          go_wp2
          go_roundw
          case rel => exact ⟨k + 1, by omega, by go_num, HK2, HBN.out nq⟩
          case measure => simp [intOf]; omega
        · have HF := Lib.hid (same_not (v := v) (u := u) (k := k) (by rw [HX.out, HY.out]; exact hxy))
          have hne : (x != y) = true := by simpa using hxy
          have hne2 : (x == y) = false := by simpa using hxy
          go_wp2
          go_quiet (fail)
          go_wp2
          go_ret
          exact ⟨by rw [HF.out]; rfl, HBN.out nq⟩
      · obtain rfl : k = n := by omega
        have HF := Lib.hid (same_all (v := v) (u := u) (by rw [HN.out, HM.out]) (by rw [HN.out]; exact HK.out))
        go_wp2
        go_ret
        exact ⟨by rw [HF.out]; rfl, hbw⟩
  · have HF := Lib.hid (same_len (v := v) (u := u) (by rw [hn, hm]; exact hnm))
    have hnz : ¬ (n : Int) = (m : Int) := by omega
    have hnb : ((n : Int) == (m : Int)) = false := by simp; omega
    have hnn : ((n : Int) != (m : Int)) = true := by simp; omega
    clear ha hb hn hm hnm
    go_enter Tryd.func25, Tryd.ntmps25
    go_wp2
    go_ret
    exact ⟨by rw [HF.out]; rfl, Below.refl _ _⟩

theorem is_set (l : List Int) (k : Nat) (x : Int) : (is l).set k (.int .i64 x) = is (l.set k x) := by unfold is; rw [List.map_set]
theorem own_rd {w : World} {B g n e : Nat} {xs : List Value} (h : w.ownsRow B e 1 (.slice (some ⟨g, 0, none⟩) n n) n xs) : Rd w (some ⟨g, 0, none⟩) xs := by
  obtain ⟨_, _, hv1, hrd, _⟩ := Rd.of_own h
  injection hv1 with e1 e2 e3
  rw [← e1] at hrd
  exact hrd

/-- A call that hands back a vector and an error's number. -/
def RetVecE (l : List Int) (x : Int) (w : World) (e : Ending) (w' : World) : Prop := ∃ B k d, e = .returned (.tuple #[.slice B k d, .int .i64 x]) ∧ Rd w' B (is l) ∧ l.length = k ∧ Below w.heap.size w w'
theorem retE_none (x : Int) (w : World) : RetVecE [] x w (.returned (.tuple #[.slice none 0 0, .int .i64 x])) w := ⟨none, 0, 0, rfl, .inl rfl, rfl, Below.refl _ _⟩

set_option maxRecDepth 100000 in
set_option maxHeartbeats 400000 in
theorem with_out (A : Option Addr) (n c : Nat) (v : List Int) (r y : Int) (w : World) (h : r < 1 ∨ 16 < r) :
    Calls Tryd.prog 23 #[.slice A n c, .int .i64 r, .int .i64 y] w (RetVecE [] 1 w) := by
  rcases h with h0 | h0
  all_goals
    go_enter Tryd.func23, Tryd.ntmps23
    go_wp2
    go_ret2
    exact retE_none 1 w

/-- The greater of two lengths, by cases. -/
def MaxOf (n m x : Nat) : Prop := (n < m ∧ x = m) ∨ (m < n ∧ x = n) ∨ ((n ≤ m ∧ m ≤ n) ∧ x = n)
theorem maxOf (n m : Nat) : MaxOf n m (max n m) := by unfold MaxOf; omega

set_option maxRecDepth 100000 in
set_option maxHeartbeats 1000000 in
theorem with_in (A : Option Addr) (n c k x : Nat) (v : List Int) (y : Int) (w : World) (hr : Rd w A (is v)) (hn : v.length = n) (hle : n ≤ 1000000000) (hk : k ≤ 15) (hx : MaxOf n (k + 1) x) :
    Calls Tryd.prog 23 #[.slice A n c, .int .i64 ((k : Int) + 1), .int .i64 y] w (RetVecE (plainL (putN v k y x)) 0 w) := by
  have HR := Lib.hid hr
  have HN := Lib.hid hn
  have hs : (k : Int) + 1 - 1 = (k : Int) := by omega
  have hxl : x ≤ 1000000000 := by unfold MaxOf at hx; omega
  have hkx : k + 1 ≤ x := by unfold MaxOf at hx; omega
  clear hr hn
  have hcop : ∀ X : Int, X = (x : Int) → ∀ w : World, Rd w A (is v) → Calls Tryd.prog 46 #[.slice A n c, .int .i64 X] w fun e w' => ∃ g, e = .returned (.slice (some ⟨g, 0, none⟩) x x) ∧ w'.ownsRow w.heap.size 3 1 (.slice (some ⟨g, 0, none⟩) x x) x (is (padN v x)) ∧ Below w.heap.size w w' := by
    rintro X rfl w h
    exact copied_any A n c x v w h HN.out hle hxl
  have HCOP := Lib.hid hcop
  clear hcop
  rcases hx with ⟨h2, h3⟩ | ⟨h2, h3⟩ | ⟨⟨h2, h2'⟩, h3⟩
  all_goals
    have H3 := Lib.hid h3
    clear h3
    go_enter Tryd.func23, Tryd.ntmps23
    go_wp2_with fail
    refine (HCOP.out _ (by have := H3.out; omega) _ HR.out).mono ?_
    rintro e w1 ⟨g, rfl, ho, hb⟩
    have hfr := ho.frozenAt k
    obtain ⟨v0, hv0⟩ : ∃ v0, w1.cell? ⟨g, k, none⟩ = some v0 := by
      rw [ho.cellAt k (by omega)]
      exact ⟨_, List.getElem?_eq_getElem (by rw [is_len, padN_len]; omega)⟩
    have hbg : w.heap.size ≤ g := (own_full ho).2.1
    have hml := (own_full ho).2.2.1
    have ho2 := (ho.stored k (.int .i64 y)).1
    rw [is_set, padN_put _ _ (by omega)] at ho2
    have hb2 := hb.setCell (p := ⟨g, k, none⟩) hbg (.int .i64 y)
    have hrd := own_rd ho2
    have HRD := Lib.hid hrd
    have HT := Lib.hid (rd_take hrd (endN (putN v k y x) x))
    have HBW := Lib.hid hb2
    have hend := endN_le (putN v k y x) x
    obtain ⟨q, hq⟩ : ∃ q, q = endN (putN v k y x) x := ⟨_, rfl⟩
    have HE : Hid (((endN (putN v k y x) (putN v k y x).length : Nat) : Int) = (q : Int)) := by show _ = _; rw [putN_len, hq]
    have HTO : Hid ((putN v k y x).take q = plainL (putN v k y x)) := by show _ = _; rw [hq]; unfold plainL; rw [putN_len]
    have HL : Hid ((plainL (putN v k y x)).length = q) := by show _ = _; rw [plainL_len, putN_len, hq]
    rw [← hq] at HT hend
    clear hq ho ho2 hb hb2 hrd
    go_wp2_with fail
    refine (end_any _ x x (putN v k y x) _ HRD.out (putN_len _ _ _ _) (by omega)).mono ?_
    rintro e w2 ⟨rfl, rfl⟩
    rw [HE.out]
    go_wp2
    go_ret2
    exact ⟨_, _, _, rfl, by rw [← HTO.out]; exact HT.out, HL.out, HBW.out⟩

theorem with_any (A : Option Addr) (n c : Nat) (v : List Int) (r y : Int) (w : World) (hr : Rd w A (is v)) (hn : v.length = n) (hle : n ≤ 1000000000) :
    Calls Tryd.prog 23 #[.slice A n c, .int .i64 r, .int .i64 y] w (RetVecE (withR v r y).1 (withR v r y).2 w) := by
  by_cases h : r < 1 ∨ 16 < r
  · rw [withR_out h]; exact with_out A n c v r y w h
  · obtain ⟨k, rfl⟩ : ∃ k : Nat, r = (k : Int) + 1 := ⟨(r - 1).toNat, by omega⟩
    rw [withR_in (by omega) (by omega), hn, show ((k : Int) + 1 - 1).toNat = k by omega, show ((k : Int) + 1).toNat = k + 1 by omega]
    exact with_in A n c k _ v y w hr hn hle (by omega) (maxOf n (k + 1))

set_option maxRecDepth 100000 in
set_option maxHeartbeats 400000 in
theorem refWith_out (A : Option Addr) (n c : Nat) (v : List Int) (r y : Int) (w : World) (h : r < 1 ∨ 16 < r) :
    Calls Tryd.prog 24 #[.slice A n c, .int .i64 r, .int .i64 y] w (RetVecE [] 1 w) := by
  rcases h with h0 | h0
  all_goals
    go_enter Tryd.func24, Tryd.ntmps24
    go_wp2
    go_ret2
    exact retE_none 1 w

set_option maxRecDepth 100000 in
set_option maxHeartbeats 2000000 in
theorem refWith_in (A : Option Addr) (n c k x : Nat) (v : List Int) (y : Int) (w : World) (hr : Rd w A (is v)) (hn : v.length = n) (hle : n ≤ 1000000000) (hk : k ≤ 15) (hx : MaxOf n (k + 1) x) :
    Calls Tryd.prog 24 #[.slice A n c, .int .i64 ((k : Int) + 1), .int .i64 y] w (RetVecE (plainL (putN v k y x)) 0 w) := by
  obtain ⟨i0, hi0, hz0, hz1, hz2⟩ := info_parts info_int
  have HR := Lib.hid hr
  have HN := Lib.hid hn
  have hxl : x ≤ 1000000000 := by unfold MaxOf at hx; omega
  have hkx : k + 1 ≤ x := by unfold MaxOf at hx; omega
  have hx' : (n < k + 1 ∧ x ≤ k + 1 ∧ k + 1 ≤ x) ∨ (k + 1 < n ∧ x ≤ n ∧ n ≤ x) ∨ ((n ≤ k + 1 ∧ k + 1 ≤ n) ∧ x ≤ n ∧ n ≤ x) := by unfold MaxOf at hx; omega
  have h0 : GrowRel (putN v k y) x w.heap.size w (.slice none 0 0) (.int .i64 1) w := ⟨0, by omega, rfl, World.ownsRow_nil _ _ _ _, Below.refl _ _⟩
  have H0 := Lib.hid h0
  clear hr hn h0 hx
  rcases hx' with ⟨h2, h3, h4⟩ | ⟨h2, h3, h4⟩ | ⟨⟨h2, h2'⟩, h3, h4⟩
  all_goals
    go_enter Tryd.func24, Tryd.ntmps24
    go_wp2
    go_loopw [8, 9] (fun v0 i wr => GrowRel (putN v k y) x w.heap.size w v0 i wr) (fun _ i _ => x + 1 - (intOf i).toNat)
    case atStart => exact H0.out
    case round =>
      clear H0
      obtain ⟨j, hj, rfl, ho, hb⟩ := hrel
      have hB : w.heap.size ≤ wr.heap.size := hb.size
      by_cases hlt : j < x
      · have HS := Lib.hid (putN_snoc v k y j)
        by_cases hjk : j = k
        · rw [if_pos hjk] at HS
          subst hjk
          go_wp2_with (at_builtin; refine wpList_append_own _ rfl (.tmp 27) (.tmp 29) 36 rfl w.heap.size 3 i0 (.int .i64 0) 1 8 Tryd.underlying36 hi0 hz0 hz1 hz2 rfl (by decide) _ _ _ rfl (ho.alloc _) ⟨wr.heap.size, 0, none⟩ 1 1 _ rfl rfl (cell_one_new _ _ _) (by simp [Value.oneCell']) (by unfold maxLen; omega) (by omega) (by simp; omega) ?_)
          intro v1 w2 hown1 hg1 _
          have HR2 := Lib.hid (GrowRel.step hB hlt HS.out ho hb hown1 _ hg1)
          clear hown1 hg1
          go_wp2
          go_roundw
          case rel => exact HR2.out
          case measure => simp [intOf]; omega
        · rw [if_neg hjk] at HS
          have hne : (((j : Int) + 1) == ((k : Int) + 1)) = false := by simp; omega
          have hr1 := Lib.hid (HR.out.keep hb)
          have HA := Lib.hid (atL_succ v j)
          clear hjk
          go_wp2_with fail
          refine (refAt_any A n c v ((j : Int) + 1) _ hr1.out HN.out hle (by omega)).mono ?_
          rintro e w2 ⟨rfl, rfl⟩
          rw [HA.out]
          obtain ⟨a, ha⟩ : ∃ a, a = v.getD j 0 := ⟨_, rfl⟩
          rw [← ha] at HS
          rw [← ha]
          clear ha
          go_wp2_with (at_builtin; refine wpList_append_own _ rfl (.tmp 31) (.tmp 35) 36 rfl w.heap.size 3 i0 (.int .i64 0) 1 8 Tryd.underlying36 hi0 hz0 hz1 hz2 rfl (by decide) _ _ _ rfl (ho.alloc _) ⟨wr.heap.size, 0, none⟩ 1 1 _ rfl rfl (cell_one_new _ _ _) (by simp [Value.oneCell']) (by unfold maxLen; omega) (by omega) (by simp; omega) ?_)
          intro v1 w2 hown1 hg1 _
          have HR2 := Lib.hid (GrowRel.step hB hlt HS.out ho hb hown1 _ hg1)
          clear hown1 hg1
          go_wp2
          go_roundw
          case rel => exact HR2.out
          case measure => simp [intOf]; omega
      · obtain rfl : j = x := by omega
        obtain ⟨C, q, rfl, hrd, _⟩ := Rd.of_own ho
        have hkq : j ≤ q ∧ q ≤ maxLen := by
          rcases ho.2 with ⟨h', h0⟩ | ⟨g, cap, cur, h', _, _, hnc, hcm, _⟩
          · injection h' with e1 e2 e3; omega
          · injection h' with e1 e2 e3; omega
        have hq2 : q ≤ 9223372036854775807 := by have := hkq.2; unfold maxLen at this; omega
        have HRD := Lib.hid hrd
        have HBW := Lib.hid hb
        clear ho hb hrd
        go_wp2_with fail
        refine (refPlain_any C j q (putN v k y j) _ HRD.out (putN_len _ _ _ _) hkq.1 hq2 (by omega)).mono ?_
        rintro e w2 ⟨i, rfl, hr, hl, rfl⟩
        have HR3 := Lib.hid hr
        have HL := Lib.hid hl
        clear hr hl
        go_wp2
        go_ret2
        exact ⟨_, _, _, rfl, HR3.out, HL.out, HBW.out⟩

theorem refWith_any (A : Option Addr) (n c : Nat) (v : List Int) (r y : Int) (w : World) (hr : Rd w A (is v)) (hn : v.length = n) (hle : n ≤ 1000000000) :
    Calls Tryd.prog 24 #[.slice A n c, .int .i64 r, .int .i64 y] w (RetVecE (withR v r y).1 (withR v r y).2 w) := by
  by_cases h : r < 1 ∨ 16 < r
  · rw [withR_out h]; exact refWith_out A n c v r y w h
  · obtain ⟨k, rfl⟩ : ∃ k : Nat, r = (k : Int) + 1 := ⟨(r - 1).toNat, by omega⟩
    rw [withR_in (by omega) (by omega), hn, show ((k : Int) + 1 - 1).toNat = k by omega, show ((k : Int) + 1).toNat = k + 1 by omega]
    exact refWith_in A n c k _ v y w hr hn hle (by omega) (maxOf n (k + 1))

end Go.Proofs.YticiolhfoeenmaaDoor.S5
