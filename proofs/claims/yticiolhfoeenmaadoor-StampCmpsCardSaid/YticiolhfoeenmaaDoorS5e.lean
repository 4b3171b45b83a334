/-
  Layer 5, walks: what is put together by a function; the merged vector and the met one.
-/
import Derived.Test.YticiolhfoeenmaaDoorS5d
namespace Go.Proofs.YticiolhfoeenmaaDoor.S5
open Go.RowKit Go.PlainAid M5
set_option linter.unusedVariables false

theorem fill_set (l : List Int) {x k : Nat} (y : Int) (hl : l.length = k) (hk : k < x) : (l ++ List.replicate (x - k) 0).set k y = (l ++ [y]) ++ List.replicate (x - (k + 1)) 0 := by
  subst hl
  rw [List.set_append_right _ _ (Nat.le_refl _), Nat.sub_self]
  obtain ⟨j, hj⟩ : ∃ j, x - l.length = j + 1 := ⟨x - l.length - 1, by omega⟩
  rw [hj, show x - (l.length + 1) = j by omega, List.replicate_succ, List.set_cons_zero, List.append_assoc]
  rfl
/-- WHAT THE LOOP OF together KEEPS. -/
def TogRel (f : Int → Int → Int) (v u : List Int) (x g B : Nat) (w : World) (i : Value) (wr : World) : Prop :=
  ∃ k : Nat, k ≤ x ∧ i = .int .i64 (k : Int) ∧ wr.ownsRow B 3 1 (.slice (some ⟨g, 0, none⟩) x x) x (is (zipN f v u k ++ List.replicate (x - k) 0)) ∧ Below B w wr
theorem TogRel.step {f : Int → Int → Int} {v u : List Int} {x g B k : Nat} {w wr : World} {y : Int} (hBg : B ≤ g) (hk : k < x) (hy : y = f (v.getD k 0) (u.getD k 0))
    (ho : wr.ownsRow B 3 1 (.slice (some ⟨g, 0, none⟩) x x) x (is (zipN f v u k ++ List.replicate (x - k) 0))) (hb : Below B w wr) :
    TogRel f v u x g B w (.int .i64 ((k : Int) + 1)) (wr.setCell ⟨g, k, none⟩ (.int .i64 y)) := by
  refine ⟨k + 1, by omega, by go_num, ?_, hb.setCell hBg _⟩
  have h := (ho.stored k (.int .i64 y)).1
  rw [zipN_snoc, ← hy, ← fill_set _ _ (zipN_len f v u k) hk]
  have e : is ((zipN f v u k ++ List.replicate (x - k) 0).set k y) = (is (zipN f v u k ++ List.replicate (x - k) 0)).set k (.int .i64 y) := by
    unfold is; rw [List.map_set]
  rw [e]
  exact h

set_option maxRecDepth 100000 in
set_option maxHeartbeats 1000000 in
theorem together_any (f : Int → Int → Int) (p : Nat) (A B : Option Addr) (n m c d : Nat) (v u : List Int) (w : World) (hv : Rd w A (is v)) (hu : Rd w B (is u)) (hn : v.length = n) (hm : u.length = m) (hle : n ≤ 1000000000) (hlm : m ≤ 1000000000)
    (eg : ∀ args w, (callFunc p args).run Tryd.prog w = .ok (.enter p args) w)
    (hp : ∀ (a b : Int) (w : World), Calls Tryd.prog p #[.int .i64 a, .int .i64 b] w fun e w' => e = .returned (.int .i64 (f a b)) ∧ w = w') :
    Calls Tryd.prog 51 #[.slice A n c, .slice B m d, .func (.func p) #[] #[]] w fun e w' => ∃ C k q, e = .returned (.slice C k q) ∧ Rd w' C (is (togL f v u)) ∧ (togL f v u).length = k ∧ Below w.heap.size w w' := by
  obtain ⟨i0, hi0, hz0, hz1, hz2⟩ := info_parts info_int
  have HV := Lib.hid hv
  have HU := Lib.hid hu
  have HN := Lib.hid hn
  have HM := Lib.hid hm
  obtain ⟨x, hx1, hx2, hx3, hx4⟩ : ∃ x : Nat, x = max n m ∧ n ≤ x ∧ m ≤ x ∧ ((n < m ∧ x ≤ m) ∨ (m < n ∧ x ≤ n) ∨ (n ≤ m ∧ m ≤ n ∧ x ≤ n)) := ⟨max n m, rfl, by omega, by omega, by omega⟩
  have HX : Hid (plainL (zipN f v u x) = togL f v u) := by show _ = _; unfold togL; rw [hn, hm, ← hx1]
  have hxl : x ≤ 1000000000 := by omega
  have HPP := Lib.hid hp
  clear hv hu hn hm hx1 hp
  rcases hx4 with ⟨h1, h2⟩ | ⟨h1, h2⟩ | ⟨h1, h2, h3⟩
  all_goals
    go_enter Tryd.func51, Tryd.ntmps51
    go_wp2_with (at_make; refine wpList_make_full _ rfl _ _ 61 rfl w.heap.size 3 i0 (.int .i64 0) 1 Tryd.underlying61 hi0 hz0 hz1 _ _ _ _ x rfl rfl (by omega) (by omega) (by rw [hz2]; omega) (by unfold maxLen; omega) (Nat.le_refl _) ?_)
    intro w1 ho hg
    have hb : Below w.heap.size w w1 := (Below.refl _ _).grown hg (Nat.le_refl _) (fun k h => by simp at h)
    rw [toList_madeCells_one] at ho
    have h0 : TogRel f v u x w.heap.size w.heap.size w (.int .i64 0) w1 := ⟨0, by omega, rfl, by
      rw [show is (zipN f v u 0 ++ List.replicate (x - 0) 0) = List.replicate x (Value.int .i64 0) by simp [is, zipN]]
      exact ho, hb⟩
    have H0 := Lib.hid h0
    clear h0 ho hg hb
    go_wp2
    go_loopw [8, 17] (fun _ i wr => TogRel f v u x w.heap.size w.heap.size w i wr) (fun _ i _ => x - (intOf i).toNat)
    case atStart => exact H0.out
    case round =>
      clear H0
      obtain ⟨k, hk, rfl, ho, hb⟩ := hrel
      have hml := (own_full ho).2.2.1
      by_cases hlt : k < x
      · have HA := Lib.hid (atL_succ v k)
        have HB := Lib.hid (atL_succ u k)
        have hr1 := Lib.hid (HV.out.keep hb)
        have hr2 := Lib.hid (HU.out.keep hb)
        have hfr := ho.frozenAt k
        obtain ⟨v0, hv0⟩ : ∃ v0, wr.cell? ⟨w.heap.size, k, none⟩ = some v0 := by
          rw [ho.cellAt k (by omega)]
          exact ⟨_, List.getElem?_eq_getElem (by rw [is_len, List.length_append, zipN_len, List.length_replicate]; omega)⟩
        have HO := Lib.hid ho
        have HBW := Lib.hid hb
        clear ho hb
        go_wp2_with fail
        refine (at_any A n c v ((k : Int) + 1) _ hr1.out HN.out hle (by omega)).mono ?_
        rintro e w2 ⟨rfl, rfl⟩
        go_wp2_with fail
        refine (at_any B m d u ((k : Int) + 1) _ hr2.out HM.out hlm (by omega)).mono ?_
        rintro e w2 ⟨rfl, rfl⟩
        rw [HA.out, HB.out]
        obtain ⟨y, hy⟩ : ∃ y, y = f (v.getD k 0) (u.getD k 0) := ⟨_, rfl⟩
        obtain ⟨a, ha⟩ : ∃ a, a = v.getD k 0 := ⟨_, rfl⟩
        obtain ⟨b, hbb⟩ : ∃ b, b = u.getD k 0 := ⟨_, rfl⟩
        have HY : Hid (y = f a b) := by show _ = _; rw [ha, hbb]; exact hy
        have HYY := Lib.hid hy
        rw [← ha, ← hbb]
        clear ha hbb hy
        go_wp2_with fail
        refine (HPP.out a b _).mono ?_
        rintro e w2 ⟨rfl, rfl⟩
        rw [← HY.out]
        have hy := HYY.out
        have HR := Lib.hid (TogRel.step (w := w) (Nat.le_refl w.heap.size) hlt hy HO.out HBW.out)
        clear hy
        go_wp2
        go_roundw
        case rel => exact HR.out
        case measure => simp [intOf]; omega
      · obtain rfl : k = x := by omega
        have hrd : Rd wr (some ⟨w.heap.size, 0, none⟩) (is (zipN f v u k)) := by
          obtain ⟨_, _, hv1, hrd, _⟩ := Rd.of_own ho
          injection hv1 with e1 e2 e3
          rw [← e1] at hrd
          simpa using hrd
        have HRD := Lib.hid hrd
        have HT := Lib.hid (rd_take hrd (endN (zipN f v u k) k))
        have HBW := Lib.hid hb
        have hend := endN_le (zipN f v u k) k
        obtain ⟨q, hq⟩ : ∃ q, q = endN (zipN f v u k) k := ⟨_, rfl⟩
        have HE : Hid (((endN (zipN f v u k) (zipN f v u k).length : Nat) : Int) = (q : Int)) := by rw [zipN_len, hq]; rfl
        have HL : Hid ((togL f v u).length = q) := by rw [← HX.out, plainL_len, zipN_len, hq]; rfl
        have HTO : Hid ((zipN f v u k).take q = togL f v u) := by show _ = _; rw [← HX.out, hq]; unfold plainL; rw [zipN_len]
        rw [← hq] at HT hend
        clear hq ho hb hrd
        go_wp2_with fail
        refine (end_any _ k k (zipN f v u k) _ HRD.out (zipN_len f v u k) (by omega)).mono ?_
        rintro e w2 ⟨rfl, rfl⟩
        rw [HE.out]
        go_wp2
        go_ret
        exact ⟨_, _, _, rfl, by rw [← HTO.out]; exact HT.out, HL.out, HBW.out⟩

end Go.Proofs.YticiolhfoeenmaaDoor.S5
