/-
  Layer 5, walks: whether numbers may be a vector.
-/
import Derived.Test.YticiolhfoeenmaaDoorS5g
namespace Go.Proofs.YticiolhfoeenmaaDoor.S5
open Go.RowKit Go.PlainAid Go.Shelf M5
set_option linter.unusedVariables false

/-- None is below nought. -/
def fine (v : List Int) : Bool := v.all fun x => decide (0 ≤ x)
theorem fine_not {v : List Int} {k : Nat} (hk : k < v.length) (h : v.getD k 0 < 0) : fine v = false := by
  unfold fine
  rw [Bool.eq_false_iff]
  intro hall
  have := List.all_eq_true.1 hall v[k] (List.getElem_mem hk)
  rw [List.getD_eq_getElem?_getD, List.getElem?_eq_getElem hk] at h
  have h2 := of_decide_eq_true this
  simp at h
  omega
theorem fine_all {v : List Int} (h : ∀ j, j < v.length → 0 ≤ v.getD j 0) : fine v = true := by
  unfold fine
  rw [List.all_eq_true]
  intro x hx
  obtain ⟨j, hj, rfl⟩ := List.mem_iff_getElem.1 hx
  have := h j hj
  rw [List.getD_eq_getElem?_getD, List.getElem?_eq_getElem hj] at this
  exact decide_eq_true this
theorem fine_on {v : List Int} {k : Nat} (h : ∀ j, j < k → 0 ≤ v.getD j 0) (hk : 0 ≤ v.getD k 0) : ∀ j, j < k + 1 → 0 ≤ v.getD j 0 := by
  intro j hj
  by_cases e : j = k
  · rw [e]; exact hk
  · exact h j (by omega)
theorem vectorL_eq (v : List Int) : vectorL v = (decide (v.length ≤ 16) && decide (endN v v.length = v.length) && fine v) := rfl

set_option maxRecDepth 100000 in
set_option maxHeartbeats 400000 in
theorem below_any (a : Int) (w : World) : Calls Tryd.prog 49 #[.int .i64 a] w fun e w' => e = .returned (.bool (decide (a < 0))) ∧ w = w' := by
  by_cases h : a < 0
  all_goals
    go_enter Tryd.func49, Tryd.ntmps49
    go_wp2
    go_ret
    exact ⟨by simp [h], rfl⟩

/-- Where the first number below nought stands, or -1. -/
def RetIdx (v : List Int) (w : World) (e : Ending) (w' : World) : Prop := ∃ z : Int, e = .returned (.int .i64 z) ∧ ((fine v = true ∧ z = -1) ∨ (fine v = false ∧ 0 ≤ z)) ∧ w = w'

set_option maxRecDepth 100000 in
set_option maxHeartbeats 400000 in
theorem index_any (A : Option Addr) (n c : Nat) (v : List Int) (w : World) (hr : Rd w A (is v)) (hn : v.length = n) (hle : n ≤ 1000000000) :
    Calls Tryd.prog 59 #[.slice A n c, .func (.func 49) #[] #[]] w (RetIdx v w) := by
  subst hn
  have HR := Lib.hid hr
  clear hr
  go_enter Tryd.func59, Tryd.ntmps59
  go_wp2
  go_loop [5, 8] (fun _ i => ∃ k : Nat, k ≤ v.length ∧ i = .int .i64 (k : Int) ∧ Hid (∀ j, j < k → 0 ≤ v.getD j 0)) (fun _ i => v.length - (intOf i).toNat)
  case atStart => exact ⟨0, by omega, rfl, fun j h => by omega⟩
  case round =>
    obtain ⟨k, hk, rfl, HK⟩ := hrel
    by_cases hlt : k < v.length
    · obtain ⟨b, off, x, rfl, hb, hc, HX⟩ := rd_at HR.out (k := k) hlt
      by_cases hneg : x < 0
      · have HF := Lib.hid (fine_not hlt (by rw [HX.out]; exact hneg))
        have hd : decide (x < 0) = true := by simpa using hneg
        go_wp2_with fail
        refine (below_any x _).mono ?_
        rintro e w1 ⟨rfl, rfl⟩
        go_wp2
        go_ret
        exact ⟨_, rfl, .inr ⟨HF.out, by omega⟩, rfl⟩
      · have HK2 : Hid (∀ j, j < k + 1 → 0 ≤ v.getD j 0) := fine_on HK.out (by rw [HX.out]; omega)
        have hd : decide (x < 0) = false := by simpa using hneg
        go_wp2_with fail
        refine (below_any x _).mono ?_
        rintro e w1 ⟨rfl, rfl⟩
        go_wp2
        go_round
        case rel => exact ⟨k + 1, by omega, by go_num, HK2⟩
        case measure => simp [intOf]; omega
    · obtain rfl : k = v.length := by omega
      have HF := Lib.hid (fine_all HK.out)
      go_wp2
      go_ret
      exact ⟨_, rfl, .inl ⟨HF.out, rfl⟩, rfl⟩

set_option maxRecDepth 100000 in
set_option maxHeartbeats 400000 in
theorem contains_any (A : Option Addr) (n c : Nat) (v : List Int) (w : World) (hr : Rd w A (is v)) (hn : v.length = n) (hle : n ≤ 1000000000) :
    Calls Tryd.prog 50 #[.slice A n c, .func (.func 49) #[] #[]] w fun e w' => e = .returned (.bool (!fine v)) ∧ w = w' := by
  have HR := Lib.hid hr
  have HN := Lib.hid hn
  clear hr hn
  go_enter Tryd.func50, Tryd.ntmps50
  go_wp2_with fail
  refine (index_any A n c v _ HR.out HN.out hle).mono ?_
  rintro e w1 ⟨z, rfl, h | h, rfl⟩
  · obtain ⟨hf, rfl⟩ := h
    have HFI := Lib.hid hf
    clear hf
    go_wp2
    go_ret
    exact ⟨by rw [HFI.out]; rfl, rfl⟩
  · obtain ⟨hf, hz⟩ := h
    have HFI := Lib.hid hf
    clear hf
    go_wp2
    go_ret
    exact ⟨by rw [HFI.out]; rfl, rfl⟩

set_option maxRecDepth 100000 in
set_option maxHeartbeats 400000 in
theorem vector_any (A : Option Addr) (n c : Nat) (v : List Int) (w : World) (hr : Rd w A (is v)) (hn : v.length = n) (hle : n ≤ 1000000000) :
    Calls Tryd.prog 30 #[.slice A n c] w fun e w' => e = .returned (.bool (vectorL v)) ∧ w = w' := by
  subst hn
  have HR := Lib.hid hr
  have hend := endN_le v v.length
  have HV := Lib.hid (vectorL_eq v)
  obtain ⟨q, hq⟩ : ∃ q, q = endN v v.length := ⟨_, rfl⟩
  have HE : Hid (((endN v v.length : Nat) : Int) = (q : Int)) := by show _ = _; rw [hq]
  rw [← hq] at HV hend
  clear hr hq
  by_cases h1 : v.length ≤ 16
  rotate_left
  · have hd1 : decide (v.length ≤ 16) = false := by simpa using h1
    have HF : Hid (vectorL v = false) := by show _ = _; rw [HV.out, hd1]; rfl
    clear hd1
    go_enter Tryd.func30, Tryd.ntmps30
    go_wp2
    go_ret
    exact ⟨by rw [HF.out]; rfl, rfl⟩
  by_cases h2 : q = v.length
  rotate_left
  · have hd1 : decide (q = v.length) = false := by simpa using h2
    have HF : Hid (vectorL v = false) := by show _ = _; rw [HV.out, hd1]; simp
    have hqn : ((q : Int) == (v.length : Int)) = false := by simp; omega
    clear hd1 h2
    go_enter Tryd.func30, Tryd.ntmps30
    go_wp2_with fail
    refine (end_any A _ c v _ HR.out rfl hle).mono ?_
    rintro e w1 ⟨rfl, rfl⟩
    rw [HE.out]
    go_wp2
    go_ret
    exact ⟨by rw [HF.out]; rfl, rfl⟩
  have HF : Hid (vectorL v = fine v) := by show _ = _; rw [HV.out, decide_eq_true h1, decide_eq_true h2]; rfl
  have HE2 : Hid (((endN v v.length : Nat) : Int) = (v.length : Int)) := by show _ = _; rw [HE.out, h2]
  clear h2
  cases hf : fine v
  all_goals
    have HFI := Lib.hid hf
    clear hf
    go_enter Tryd.func30, Tryd.ntmps30
    go_wp2_with fail
    refine (end_any A _ c v _ HR.out rfl hle).mono ?_
    rintro e w1 ⟨rfl, rfl⟩
    rw [HE2.out]
    go_wp2_with fail
    refine (contains_any A _ c v _ HR.out rfl hle).mono ?_
    rintro e w1 ⟨rfl, rfl⟩
    rw [HFI.out]
    go_wp2
    go_ret
    exact ⟨by rw [HF.out, HFI.out]; rfl, rfl⟩

theorem plain_same (v : List Int) : decide (v = plainL v) = decide (endN v v.length = v.length) := by
  rw [decide_eq_decide]
  constructor
  · intro h; have := congrArg List.length h; rw [plainL_len] at this; exact this.symm
  · intro h; unfold plainL; rw [h, List.take_length]

set_option maxRecDepth 100000 in
set_option maxHeartbeats 400000 in
theorem refVector_any (A : Option Addr) (n c : Nat) (v : List Int) (w : World) (hr : Rd w A (is v)) (hn : v.length = n) (hnc : n ≤ c) (hcm : c ≤ 9223372036854775807) (hle : n ≤ 1000000000) :
    Calls Tryd.prog 31 #[.slice A n c] w fun e w' => e = .returned (.bool (vectorL v)) ∧ Below w.heap.size w w' := by
  subst hn
  have HR := Lib.hid hr
  have HV := Lib.hid (vectorL_eq v)
  have HS := Lib.hid (plain_same v)
  clear hr
  go_enter Tryd.func31, Tryd.ntmps31
  go_wp2
  go_loop [3] (fun i => ∃ k : Nat, k ≤ v.length ∧ i = .int .i64 (k : Int) ∧ Hid (∀ j, j < k → 0 ≤ v.getD j 0)) (fun i => v.length - (intOf i).toNat)
  case atStart => exact ⟨0, by omega, rfl, fun j h => by omega⟩
  case round =>
    obtain ⟨k, hk, rfl, HK⟩ := hrel
    by_cases hlt : k < v.length
    · obtain ⟨b, off, x, rfl, hb, hc, HX⟩ := rd_at HR.out (k := k) hlt
      by_cases hneg : x < 0
      · have HF : Hid (vectorL v = false) := by show _ = _; rw [HV.out, fine_not hlt (by rw [HX.out]; exact hneg)]; simp
        go_wp2
        go_ret
        exact ⟨by rw [HF.out]; rfl, Below.refl _ _⟩
      · have HK2 : Hid (∀ j, j < k + 1 → 0 ≤ v.getD j 0) := fine_on HK.out (by rw [HX.out]; omega)
        go_wp2
        go_round
        case rel => exact ⟨k + 1, by omega, by go_num, HK2⟩
        case measure => simp [intOf]; omega
    · obtain rfl : k = v.length := by omega
      have HFI := Lib.hid (fine_all HK.out)
      by_cases h1 : v.length ≤ 16
      · have HF : Hid (vectorL v = decide (v = plainL v)) := by show _ = _; rw [HV.out, HFI.out, HS.out, decide_eq_true h1]; simp
        go_wp2_with fail
        refine (refPlain_any A _ c v _ HR.out rfl hnc hcm hle).mono ?_
        rintro e w1 ⟨j, rfl, hr, hl, rfl⟩
        have hj : j ≤ 1000000000 := by have := plainL_le v; omega
        have HR2 := Lib.hid hr
        have HL := Lib.hid hl
        clear hr hl
        go_wp2_with fail
        refine (same_any A A _ j c c v (plainL v) _ HR.out HR2.out rfl HL.out hle hj).mono ?_
        rintro e w2 ⟨rfl, hb⟩
        rw [← HF.out]
        go_wp2
        go_ret
        exact ⟨by simp, hb⟩
      · have hd1 : decide (v.length ≤ 16) = false := by simpa using h1
        have HF : Hid (vectorL v = false) := by show _ = _; rw [HV.out, hd1]; rfl
        clear hd1
        go_wp2
        go_ret
        exact ⟨by rw [HF.out]; rfl, Below.refl _ _⟩

end Go.Proofs.YticiolhfoeenmaaDoor.S5
