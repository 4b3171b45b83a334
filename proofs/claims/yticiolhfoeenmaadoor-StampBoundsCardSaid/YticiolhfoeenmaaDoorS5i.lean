/-
  Layer 5, walks: how ids stand to one another, and whether they are right.
-/
import Derived.Test.YticiolhfoeenmaaDoorM5c
import Derived.Test.YticiolhfoeenmaaDoorS5h
import Derived.StillTailTactics
import Derived.Deep.RegionHeld3
namespace Go.Proofs.YticiolhfoeenmaaDoor.S5
open Go.RowKit Go.PlainAid Go.Shelf M5
set_option linter.unusedVariables false

def stV (t r : Int) : Value := .agg #[.int .i64 t, .int .i64 r]
def idV (t r i : Int) : Value := .agg #[.int .i64 t, .int .i64 r, .int .i64 i]
theorem below_drew1 {B : Nat} {a w : World} (h : Below B a.drew w) : Below B a w := ⟨h.os, h.tape, h.output, h.size, h.block⟩

set_option maxRecDepth 100000 in
set_option maxHeartbeats 400000 in
theorem compare_any (a b : Int) (w : World) : Calls Tryd.prog 39 #[.int .i64 a, .int .i64 b] w fun e w' => e = .returned (.int .i64 (cmpI a b)) ∧ w = w' := by
  have ha : (a != a) = false := by simp
  have hb : (b != b) = false := by simp
  rcases cmpI_cases a b with ⟨h, hc⟩ | ⟨h, hc⟩ | ⟨h, hc⟩
  · have HF := Lib.hid hc
    clear hc
    go_enter Tryd.func39, Tryd.ntmps39
    go_wp2
    go_ret
    exact ⟨by rw [HF.out]; rfl, rfl⟩
  · have HF := Lib.hid hc
    clear hc
    go_enter Tryd.func39, Tryd.ntmps39
    go_wp2
    go_ret
    exact ⟨by rw [HF.out]; rfl, rfl⟩
  · have HF := Lib.hid hc
    clear hc
    subst h
    go_enter Tryd.func39, Tryd.ntmps39
    go_wp2
    go_ret
    exact ⟨by rw [HF.out]; rfl, rfl⟩

set_option maxRecDepth 100000 in
set_option maxHeartbeats 400000 in
theorem or_any (A : Option Addr) (n c : Nat) (v : List Int) (w : World) (hr : Rd w A (is v)) (hn : v.length = n) (hle : n ≤ 1000000000) :
    Calls Tryd.prog 38 #[.slice A n c] w fun e w' => e = .returned (.int .i64 (orL v)) ∧ w = w' := by
  subst hn
  have HR := Lib.hid hr
  clear hr
  go_enter Tryd.func38, Tryd.ntmps38
  go_wp2
  go_loop [5, 8] (fun _ i => ∃ k : Nat, k ≤ v.length ∧ i = .int .i64 (k : Int) ∧ Hid (∀ j, j < k → v.getD j 0 = 0)) (fun _ i => v.length - (intOf i).toNat)
  case atStart => exact ⟨0, by omega, rfl, fun j h => by omega⟩
  case round =>
    obtain ⟨k, hk, rfl, HK⟩ := hrel
    by_cases hlt : k < v.length
    · obtain ⟨b, off, x, rfl, hb, hc, HX⟩ := rd_at HR.out (k := k) hlt
      by_cases h0 : x = 0
      · subst h0
        have HK2 : Hid (∀ j, j < k + 1 → v.getD j 0 = 0) := nought_on HK.out HX.out
        go_wp2
        go_round
        case rel => exact ⟨k + 1, by omega, by go_num, HK2⟩
        case measure => simp [intOf]; omega
      · have HF : Hid (orL v = x) := by show _ = _; rw [orL_at HK.out (by rw [HX.out]; exact h0), HX.out]
        have hne : (x != 0) = true := by simpa using h0
        have hne2 : (x == 0) = false := by simpa using h0
        clear h0
        go_wp2
        go_ret
        exact ⟨by rw [HF.out]; rfl, rfl⟩
    · obtain rfl : k = v.length := by omega
      have HF := Lib.hid (orL_none HK.out)
      go_wp2
      go_ret
      exact ⟨by rw [HF.out]; rfl, rfl⟩

theorem or_two (g : Nat) (c : Nat) (a b : Int) (w : World) (h : Rd w (some ⟨g, 0, none⟩) [.int .i64 a, .int .i64 b]) :
    Calls Tryd.prog 38 #[.slice (some ⟨g, 0, none⟩) 2 c] w fun e w' => e = .returned (.int .i64 (orI a b)) ∧ w = w' := by
  have := or_any (some ⟨g, 0, none⟩) 2 c [a, b] w h rfl (by omega)
  rw [orL_two] at this
  exact this

theorem or_new (W : World) (g c e : Nat) (a b : Int) (hg : g = W.heap.size) :
    Calls Tryd.prog 38 #[.slice (some ⟨g, 0, none⟩) 2 c] ((W.alloc (.cells #[.int .i64 a, .int .i64 b] e)).drew) fun x w' => x = .returned (.int .i64 (orI a b)) ∧ ((W.alloc (.cells #[.int .i64 a, .int .i64 b] e)).drew) = w' := by
  subst hg
  refine or_two _ c a b _ ?_
  have ho := World.ownsRow_lit (base := W.heap.size) (size := 1) (e := e) W #[.int .i64 a, .int .i64 b] 2 (Nat.le_refl _) (by unfold maxLen; omega) rfl
  exact own_rd ho

theorem compare_q (a b : Int) (w : World) : Calls Tryd.prog 39 #[.int .i64 a, .int .i64 b] w fun e w' => e = .returned (.int .i64 (cmpI a b)) ∧ w' = w := (compare_any a b w).mono fun _ _ h => ⟨h.1, h.2.symm⟩
theorem still_tail {id : Nat} {P : Program} {Q : Exit → Act → World → Prop} {a : Act} {w : World} {l : List Oper} (n : Nat) (hm : P.follows .mixedOrders = true) (hB : Region.lexTailB .any l.toArray n = true)
    (h : wpStill P l.toArray w.drew (fun a' => wpList P l.toArray Q (l.drop n) a' w.drew) (l.take n) a) : (Code.region id l.toArray true).wp P Q a w := wp_region_still_tail n hm hB h
theorem mixed : Tryd.prog.follows .mixedOrders = true := by kernel_rfl

set_option maxRecDepth 100000 in
set_option maxHeartbeats 400000 in
theorem cmp_any (t r t' r' : Int) (w : World) : Calls Tryd.prog 11 #[.agg #[.int .i64 t, .int .i64 r], .agg #[.int .i64 t', .int .i64 r']] w fun e w' => e = .returned (.int .i64 (cmpS t r t' r')) ∧ Below w.heap.size w w' := by
  have HF : Hid (orI (cmpI t t') (cmpI r r') = cmpS t r t' r') := rfl
  go_enter Tryd.func11, Tryd.ntmps11
  go_wp2
  refine still_tail 10 mixed (by kernel_rfl) ?_
  simp only [List.take_succ_cons, List.take_zero, List.drop_succ_cons, List.drop_zero]
  repeat still_step
  still_call (compare_q _ _ _)
  repeat still_step
  still_call (compare_q _ _ _)
  refine wpStill_nil ?_
  go_wp2_with fail
  (with_reducible refine (or_new _ _ _ _ _ _ ?h1).mono ?_)
  case h1 => simp
  rintro e w3 ⟨rfl, rfl⟩
  rw [HF.out]
  go_wp2
  go_ret
  exact ⟨rfl, ((((Below.refl _ _).alloc (Nat.le_refl _) _).alloc (by simp) _).alloc (by simp; omega) _).drew⟩

theorem or_made (W : World) (g c e : Nat) (a b : Int) (hg : g = W.heap.size) :
    Calls Tryd.prog 38 #[.slice (some ⟨g, 0, none⟩) 2 c] (W.alloc (.cells #[.int .i64 a, .int .i64 b] e)) fun x w' => x = .returned (.int .i64 (orI a b)) ∧ (W.alloc (.cells #[.int .i64 a, .int .i64 b] e)) = w' := by
  subst hg
  refine or_two _ c a b _ ?_
  have ho := World.ownsRow_lit (base := W.heap.size) (size := 1) (e := e) W #[.int .i64 a, .int .i64 b] 2 (Nat.le_refl _) (by unfold maxLen; omega) rfl
  exact own_rd ho

set_option maxRecDepth 100000 in
set_option maxHeartbeats 2000000 in
theorem cmpId_any (t r i t' r' i' : Int) (w : World) : Calls Tryd.prog 13 #[.agg #[.int .i64 t, .int .i64 r, .int .i64 i], .agg #[.int .i64 t', .int .i64 r', .int .i64 i']] w fun e w' => e = .returned (.int .i64 (cmpD t r i t' r' i')) ∧ Below w.heap.size w w' := by
  have HF : Hid (orI (cmpS t r t' r') (cmpI i i') = cmpD t r i t' r' i') := rfl
  go_enter Tryd.func13, Tryd.ntmps13
  go_wp2
  go_region_held3 (fun w' => w'.cell? ⟨w.heap.size, 0, none⟩ = some (.int .i64 t) ∧ w'.cell? ⟨w.heap.size, 1, none⟩ = some (.int .i64 r) ∧ w'.cell? ⟨w.heap.size, 2, none⟩ = some (.int .i64 i) ∧ w'.cell? ⟨w.heap.size + 1, 0, none⟩ = some (.int .i64 t') ∧ w'.cell? ⟨w.heap.size + 1, 1, none⟩ = some (.int .i64 r') ∧ w'.cell? ⟨w.heap.size + 1, 2, none⟩ = some (.int .i64 i'))
    (first | go_keep)
    (first
      | (go_at_call 11; (with_reducible refine (cmp_any _ _ _ _ _).mono ?_); rintro e w3 ⟨rfl, hb3⟩; have q := fun (b o : Nat) (h : b < w.heap.size + 2) => hb3.cell (p := ⟨b, o, none⟩) (show b < _ by simp; omega); have q0 := q w.heap.size 0 (by omega); have q1 := q w.heap.size 1 (by omega); have q2 := q w.heap.size 2 (by omega); have q3 := q (w.heap.size + 1) 0 (by omega); have q4 := q (w.heap.size + 1) 1 (by omega); have q5 := q (w.heap.size + 1) 2 (by omega); clear q; simp at q0 q1 q2 q3 q4 q5)
      | (go_at_call 39; (with_reducible refine (compare_any _ _ _).mono ?_); rintro e w4 ⟨rfl, rfl⟩)
      | (go_at_call 38; (with_reducible refine (or_made _ _ _ _ _ _ ?h1).mono ?_); (case h1 => simp); rintro e w5 ⟨rfl, rfl⟩))
  have hb4 : Below w.heap.size w w3 := (((Below.refl _ _).alloc (Nat.le_refl _) _).alloc (by simp) _).drew.trans (hb3.mono (by simp; omega))
  clear q0 q1 q2 q3 q4 q5
  go_wp2
  go_ret
  exact ⟨by rw [← HF.out]; rfl, hb4.alloc hb4.size _⟩

set_option maxRecDepth 100000 in
set_option maxHeartbeats 400000 in
theorem before_any (t r t' r' : Int) (w : World) : Calls Tryd.prog 40 #[.agg #[.int .i64 t, .int .i64 r], .agg #[.int .i64 t', .int .i64 r']] w fun e w' => e = .returned (.bool (befS t r t' r')) ∧ Below w.heap.size w w' := by
  rcases Int.lt_trichotomy t t' with h | h | h
  · have HF : Hid (befS t r t' r' = true) := by show _ = _; simp [befS, h]
    go_enter Tryd.func40, Tryd.ntmps40
    go_wp2
    go_ret
    exact ⟨by rw [HF.out]; rfl, ((Below.refl _ _).alloc (Nat.le_refl _) _).alloc (by simp) _⟩
  · subst h
    by_cases h2 : r < r'
    · have HF : Hid (befS t r t r' = true) := by show _ = _; simp [befS, h2]
      go_enter Tryd.func40, Tryd.ntmps40
      go_wp2
      go_ret
      exact ⟨by rw [HF.out]; rfl, ((Below.refl _ _).alloc (Nat.le_refl _) _).alloc (by simp) _⟩
    · have HF : Hid (befS t r t r' = false) := by show _ = _; simp [befS]; omega
      go_enter Tryd.func40, Tryd.ntmps40
      go_wp2
      go_ret
      exact ⟨by rw [HF.out]; rfl, ((Below.refl _ _).alloc (Nat.le_refl _) _).alloc (by simp) _⟩
  · have HF : Hid (befS t r t' r' = false) := by show _ = _; simp [befS]; omega
    have hne : (t == t') = false := by simp; omega
    have hd : decide (t < t') = false := by simp; omega
    go_enter Tryd.func40, Tryd.ntmps40
    go_wp2
    go_ret
    exact ⟨by rw [HF.out]; rfl, ((Below.refl _ _).alloc (Nat.le_refl _) _).alloc (by simp) _⟩

theorem bcell {W w1 : World} {B : Nat} (hb : Below B W w1) {b o : Nat} (h : b < B) {v : Value} (hc : W.cell? ⟨b, o, none⟩ = some v) : w1.cell? ⟨b, o, none⟩ = some v := (hb.cell (p := ⟨b, o, none⟩) h).trans hc
theorem new2 (w : World) (o o' : Obj) : Below w.heap.size w ((w.alloc o).alloc o') := ((Below.refl _ _).alloc (Nat.le_refl _) _).alloc (by simp) _
theorem chain {w a b : World} (h : Below w.heap.size w a) (k : Below a.heap.size a b) : Below w.heap.size w b := h.trans (k.mono h.size)

set_option maxRecDepth 100000 in
set_option maxHeartbeats 400000 in
theorem refCmp_any (t r t' r' : Int) (w : World) : Calls Tryd.prog 12 #[.agg #[.int .i64 t, .int .i64 r], .agg #[.int .i64 t', .int .i64 r']] w fun e w' => e = .returned (.int .i64 (cmpS t r t' r')) ∧ Below w.heap.size w w' := by
  have hc := befS_cmp t r t' r'
  cases h1 : befS t r t' r'
  · cases h2 : befS t' r' t r
    · rw [h1, h2] at hc
      have H1 := Lib.hid h1
      have H2 := Lib.hid h2
      have HF : Hid (cmpS t r t' r' = 0) := hc
      clear h1 h2 hc
      go_enter Tryd.func12, Tryd.ntmps12
      go_wp2_with fail
      refine (before_any _ _ _ _ _).mono ?_
      rintro e w1 ⟨rfl, hb1⟩
      rw [H1.out]
      have q0 : w1.cell? ⟨w.heap.size, 0, none⟩ = some (.int .i64 t) := bcell hb1 (by simp; omega) (by simp)
      have q1 : w1.cell? ⟨w.heap.size, 1, none⟩ = some (.int .i64 r) := bcell hb1 (by simp; omega) (by simp)
      have q2 : w1.cell? ⟨w.heap.size + 1, 0, none⟩ = some (.int .i64 t') := bcell hb1 (by simp) (by simp)
      have q3 : w1.cell? ⟨w.heap.size + 1, 1, none⟩ = some (.int .i64 r') := bcell hb1 (by simp) (by simp)
      go_wp2_with fail
      refine (before_any _ _ _ _ _).mono ?_
      rintro e w2 ⟨rfl, hb2⟩
      rw [H2.out]
      have hb := chain (chain (new2 w _ _) hb1) hb2
      clear hb1 hb2 q0 q1 q2 q3
      go_wp2
      go_ret
      exact ⟨by rw [HF.out]; rfl, hb⟩
    · rw [h1, h2] at hc
      have H1 := Lib.hid h1
      have H2 := Lib.hid h2
      have HF : Hid (cmpS t r t' r' = 1) := hc
      clear h1 h2 hc
      go_enter Tryd.func12, Tryd.ntmps12
      go_wp2_with fail
      refine (before_any _ _ _ _ _).mono ?_
      rintro e w1 ⟨rfl, hb1⟩
      rw [H1.out]
      have q0 : w1.cell? ⟨w.heap.size, 0, none⟩ = some (.int .i64 t) := bcell hb1 (by simp; omega) (by simp)
      have q1 : w1.cell? ⟨w.heap.size, 1, none⟩ = some (.int .i64 r) := bcell hb1 (by simp; omega) (by simp)
      have q2 : w1.cell? ⟨w.heap.size + 1, 0, none⟩ = some (.int .i64 t') := bcell hb1 (by simp) (by simp)
      have q3 : w1.cell? ⟨w.heap.size + 1, 1, none⟩ = some (.int .i64 r') := bcell hb1 (by simp) (by simp)
      go_wp2_with fail
      refine (before_any _ _ _ _ _).mono ?_
      rintro e w2 ⟨rfl, hb2⟩
      rw [H2.out]
      have hb := chain (chain (new2 w _ _) hb1) hb2
      clear hb1 hb2 q0 q1 q2 q3
      go_wp2
      go_ret
      exact ⟨by rw [HF.out]; rfl, hb⟩
  · rw [h1] at hc
    have H1 := Lib.hid h1
    have HF : Hid (cmpS t r t' r' = -1) := hc
    clear h1 hc
    go_enter Tryd.func12, Tryd.ntmps12
    go_wp2_with fail
    refine (before_any _ _ _ _ _).mono ?_
    rintro e w1 ⟨rfl, hb1⟩
    rw [H1.out]
    have hb := chain (new2 w _ _) hb1
    clear hb1
    go_wp2
    go_ret
    exact ⟨by rw [HF.out]; rfl, hb⟩

set_option maxRecDepth 100000 in
set_option maxHeartbeats 1000000 in
theorem refCmpId_any (t r i t' r' i' : Int) (w : World) : Calls Tryd.prog 14 #[.agg #[.int .i64 t, .int .i64 r, .int .i64 i], .agg #[.int .i64 t', .int .i64 r', .int .i64 i']] w fun e w' => e = .returned (.int .i64 (cmpD t r i t' r' i')) ∧ Below w.heap.size w w' := by
  have hd : orI (cmpS t r t' r') (cmpI i i') = cmpD t r i t' r' i' := rfl
  by_cases h0 : cmpS t r t' r' = 0
  · rw [h0, orI_zero] at hd
    have HS := Lib.hid h0
    clear h0
    rcases cmpI_cases i i' with ⟨h, hc⟩ | ⟨h, hc⟩ | ⟨h, hc⟩
    all_goals
      rw [hc] at hd
      have HF := Lib.hid hd
      clear hd hc
      try subst h
      go_enter Tryd.func14, Tryd.ntmps14
      go_wp2_with fail
      refine (refCmp_any _ _ _ _ _).mono ?_
      rintro e w1 ⟨rfl, hb1⟩
      rw [HS.out]
      have q0 : w1.cell? ⟨w.heap.size, 2, none⟩ = some (.int .i64 _) := bcell hb1 (by simp; omega) (by simp; rfl)
      have q1 : w1.cell? ⟨w.heap.size + 1, 2, none⟩ = some (.int .i64 _) := bcell hb1 (by simp) (by simp; rfl)
      have hb := chain (new2 w _ _) hb1
      clear hb1
      go_wp2
      go_ret
      exact ⟨by rw [← HF.out]; rfl, hb⟩
  · rw [orI_pos _ h0] at hd
    obtain ⟨x, hx⟩ : ∃ x, x = cmpS t r t' r' := ⟨_, rfl⟩
    rw [← hx] at h0 hd
    have HX := Lib.hid hx
    have HF := Lib.hid hd
    have hne : (x != 0) = true := by simpa using h0
    have hne2 : (x == 0) = false := by simpa using h0
    clear hx hd h0
    go_enter Tryd.func14, Tryd.ntmps14
    go_wp2_with fail
    refine (refCmp_any _ _ _ _ _).mono ?_
    rintro e w1 ⟨rfl, hb1⟩
    rw [← HX.out]
    have hb := chain (new2 w _ _) hb1
    clear hb1
    go_wp2
    go_ret
    exact ⟨by rw [← HF.out]; rfl, hb⟩

end Go.Proofs.YticiolhfoeenmaaDoor.S5
