/-
  Layer 6, walks: pieces and numbers compared; what any right program answers.
-/
import Derived.Test.YtpdghmecodlhhaaP6n
namespace Go.Proofs.Ytpdghmecodlhhaa.P6
open Go.RowKit Go.PlainAid M6
set_option linter.unusedVariables false

set_option maxRecDepth 100000 in
set_option maxHeartbeats 400000 in
theorem sameTexts_any (A B : Option Addr) (n c d : Nat) (cs : List Nat) (w : World) (ha : Rd w A (pcs cs)) (hb : Rd w B (pcs cs)) (hn : cs.length = n) (hle : n ≤ 1099511627776) :
    Calls Try.prog 14 #[.slice A n c, .slice B n d] w fun e w' => e = .returned (.bool true) ∧ Below w.heap.size w w' := by
  subst hn
  have HA := Lib.hid ha
  have HB := Lib.hid hb
  clear ha hb
  go_enter Try.func14, Try.ntmps14
  go_wp2
  go_loopw [5] (fun i wr => ∃ k : Nat, k ≤ cs.length ∧ i = .int .i64 (k : Int) ∧ Below w.heap.size w wr) (fun i _ => cs.length - (intOf i).toNat)
  case atStart => exact ⟨0, by omega, rfl, Below.refl _ _⟩
  case round =>
    obtain ⟨k, hk, rfl, hbw⟩ := hrel
    by_cases hlt : k < cs.length
    · have h1 := HA.out.keep hbw
      have h2 := HB.out.keep hbw
      obtain ⟨b, off, rfl, hbl, hc⟩ := h1.get (k := k) (by rw [pcs_len]; exact hlt)
      obtain ⟨b', off', rfl, hbl', hc'⟩ := h2.get (k := k) (by rw [pcs_len]; exact hlt)
      rw [pcs_get] at hc hc'
      clear h1 h2
      go_wp2
      go_quiet (fail)
      go_wp2
      go_roundw
      case rel => exact ⟨k + 1, by omega, by go_num, below_drewN hbw nq⟩
      case measure => simp [intOf]; omega
    · obtain rfl : k = cs.length := by omega
      go_wp2
      go_ret
      exact ⟨rfl, hbw⟩

set_option maxRecDepth 100000 in
set_option maxHeartbeats 400000 in
theorem same_any (A B : Option Addr) (n c d : Nat) (zs : List Nat) (w : World) (ha : Rd w A (ints zs)) (hb : Rd w B (ints zs)) (hn : zs.length = n) (hle : n ≤ 1000000) :
    Calls Try.prog 25 #[.slice A n c, .slice B n d] w fun e w' => e = .returned (.bool true) ∧ Below w.heap.size w w' := by
  subst hn
  have HA := Lib.hid ha
  have HB := Lib.hid hb
  clear ha hb
  go_enter Try.func25, Try.ntmps25
  go_wp2
  go_loopw [5] (fun i wr => ∃ k : Nat, k ≤ zs.length ∧ i = .int .i64 (k : Int) ∧ Below w.heap.size w wr) (fun i _ => zs.length - (intOf i).toNat)
  case atStart => exact ⟨0, by omega, rfl, Below.refl _ _⟩
  case round =>
    obtain ⟨k, hk, rfl, hbw⟩ := hrel
    by_cases hlt : k < zs.length
    · have h1 := HA.out.keep hbw
      have h2 := HB.out.keep hbw
      obtain ⟨b, off, rfl, hbl, hc⟩ := h1.get (k := k) (by rw [ints_len]; exact hlt)
      obtain ⟨b', off', rfl, hbl', hc'⟩ := h2.get (k := k) (by rw [ints_len]; exact hlt)
      rw [ints_get] at hc hc'
      clear h1 h2
      go_wp2
      go_quiet (fail)
      go_wp2
      go_roundw
      case rel => exact ⟨k + 1, by omega, by go_num, below_drewN hbw nq⟩
      case measure => simp [intOf]; omega
    · obtain rfl : k = zs.length := by omega
      go_wp2
      go_ret
      exact ⟨rfl, hbw⟩

theorem Rd.new2 (w : World) (x y : Value) (t : TypeId) : Rd (w.alloc (.cells #[x, y] t)) (some ⟨w.heap.size, 0, none⟩) [x, y] := by
  refine .inr ⟨w.heap.size, 0, rfl, by simp, fun j hj => ?_⟩
  have := cell_two_new w x y t j [x, y][j] (List.getElem?_eq_getElem hj)
  rw [add_none] at this
  exact this

theorem aw_flat1 : flat [97, 233] = [97, 195, 169] := by decide +kernel
theorem aw_flat2 : flat [120, 32, 120, 49, 32, 40, 120, 41] = [120, 32, 120, 49, 32, 40, 120, 41] := by decide +kernel
theorem aw_flat3 : flat [120, 32, 120, 49] = [120, 32, 120, 49] := by decide +kernel
theorem aw_flat4 : flat [121, 32, 120, 49] = [121, 32, 120, 49] := by decide +kernel
theorem aw_found : found (nums [120]) [120, 32, 120, 49, 32, 40, 120, 41] = [(0, 1), (6, 7)] := by decide +kernel
theorem aw_found2 : found (nums [120]) [120, 32, 120, 49] = [(0, 1)] := by decide +kernel
theorem aw_sw : swapped (nums [120]) (nums [121]) [120, 32, 120, 49] = [121, 32, 120, 49] := by decide +kernel
theorem aw_bad : Bad [255] := ⟨[], [255], ⟨rfl, by simp, by decide +kernel⟩, by simp⟩
theorem txt_of {cs : List Nat} (h : ∀ c ∈ cs, c < 1000) : Txt cs := fun c hc => by have := h c hc; unfold okc; omega
theorem aw_split (w : World) : Calls Try.prog 10 #[.string ⟨#[97, 195, 169]⟩] w (Split1 [97, 233] w) := by
  have := split_good (cs := [97, 233]) (txt_of (by simp)) (by rw [aw_flat1]; decide) w
  rw [aw_flat1] at this
  exact this
theorem aw_find (w : World) : Calls Try.prog 19 #[.string ⟨#[120, 32, 120, 49, 32, 40, 120, 41]⟩, .string ⟨#[120]⟩] w fun e w' =>
    ∃ A c B d, e = .returned (.tuple #[.slice A 2 c, .slice B 2 d, .int .i64 0]) ∧ Rd w' A (ints [0, 6]) ∧ Rd w' B (ints [1, 7]) ∧ Below w.heap.size w w' := by
  have := find_good (cs := [120, 32, 120, 49, 32, 40, 120, 41]) (txt_of (by simp)) (by rw [aw_flat2]; decide) (nm := [120]) (by decide) (by decide) w
  unfold Found1 at this
  rw [aw_flat2, aw_found] at this
  exact this
theorem aw_repl (w : World) : Calls Try.prog 23 #[.string ⟨#[120, 32, 120, 49]⟩, .string ⟨#[120]⟩, .string ⟨#[121]⟩] w fun e w' =>
    e = .returned (.tuple #[.string ⟨#[121, 32, 120, 49]⟩, .int .i64 1, .int .i64 0]) ∧ Below w.heap.size w w' := by
  have := repl_good (cs := [120, 32, 120, 49]) (txt_of (by simp)) (by rw [aw_flat3]; decide) (nm := [120]) (by decide) (by decide) (by' := [121]) (by decide) (by decide) w
  rw [aw_sw, aw_flat3, aw_flat4, aw_found2] at this
  exact this
theorem aw_len (w : World) : Calls Try.prog 12 #[.string ⟨#[255]⟩] w fun e w' => e = .returned (.tuple #[.int .i64 0, .int .i64 60]) ∧ Below w.heap.size w w' :=
  len_bad aw_bad (by decide) w

set_option maxRecDepth 100000 in
set_option maxHeartbeats 2000000 in
theorem awake_any (w : World) : Calls Try.prog 9 #[] w fun e w' => e = .returned (.bool true) ∧ Below w.heap.size w w' := by
  have hp1 : pcs [97, 233] = [.string ⟨#[97]⟩, .string ⟨#[195, 169]⟩] := by
    have e1 : enc 97 = [97] := by decide +kernel
    have e2 : enc 233 = [195, 169] := by decide +kernel
    simp only [pcs, List.map_cons, List.map_nil, e1, e2]
    rfl
  have HP := Lib.hid hp1
  clear hp1
  go_enter Try.func9, Try.ntmps9
  go_wp2_with fail
  refine (aw_split _).mono ?_
  rintro e w1 ⟨A, c, rfl, hr1, hc, hb1⟩
  have R1 := Lib.hid hr1
  clear hr1 hc
  go_wp2_with fail
  refine (aw_find _).mono ?_
  rintro e w2 ⟨B, d, B2, d2, rfl, hr2, hr3, hb2⟩
  have R1 := Lib.hid (R1.out.keep hb2)
  have R2 := Lib.hid hr2
  have R3 := Lib.hid hr3
  have hb := chain hb1 hb2
  clear hr2 hr3 hb1 hb2
  go_wp2_with fail
  refine (aw_repl _).mono ?_
  rintro e w3 ⟨rfl, hb3⟩
  have R1 := Lib.hid (R1.out.keep hb3)
  have R2 := Lib.hid (R2.out.keep hb3)
  have R3 := Lib.hid (R3.out.keep hb3)
  have hb := chain hb hb3
  clear hb3
  go_wp2_with fail
  refine (aw_len _).mono ?_
  rintro e w4 ⟨rfl, hb4⟩
  have R1 := Lib.hid (R1.out.keep hb4)
  have R2 := Lib.hid (R2.out.keep hb4)
  have R3 := Lib.hid (R3.out.keep hb4)
  have hb := chain hb hb4
  clear hb4
  go_wp2_with fail
  have hba : Below w4.heap.size w4 (w4.alloc (.cells #[.string ⟨#[97]⟩, .string ⟨#[195, 169]⟩] 9)) := (Below.refl _ _).alloc (Nat.le_refl _) _
  have N1 := Rd.new2 w4 (.string ⟨#[97]⟩) (.string ⟨#[195, 169]⟩) 9
  rw [← HP.out] at N1
  refine (sameTexts_any _ _ _ _ _ [97, 233] _ (R1.out.keep hba) N1 rfl (by decide)).mono ?_
  rintro e w5 ⟨rfl, hb5⟩
  have hb6 := chain hba hb5
  have R2 := Lib.hid (R2.out.keep hb6)
  have R3 := Lib.hid (R3.out.keep hb6)
  have hb := chain hb hb6
  clear hb5 hb6 hba N1
  go_wp2_with fail
  have hba : Below w5.heap.size w5 (w5.alloc (.cells #[.int .i64 0, .int .i64 6] 3)) := (Below.refl _ _).alloc (Nat.le_refl _) _
  refine (same_any _ _ _ _ _ [0, 6] _ (R2.out.keep hba) (Rd.new2 w5 (.int .i64 0) (.int .i64 6) 3) rfl (by decide)).mono ?_
  rintro e w6 ⟨rfl, hb5⟩
  have hb6 := chain hba hb5
  have R3 := Lib.hid (R3.out.keep hb6)
  have hb := chain hb hb6
  clear hb5 hb6 hba
  go_wp2_with fail
  have hba : Below w6.heap.size w6 (w6.alloc (.cells #[.int .i64 1, .int .i64 7] 3)) := (Below.refl _ _).alloc (Nat.le_refl _) _
  refine (same_any _ _ _ _ _ [1, 7] _ (R3.out.keep hba) (Rd.new2 w6 (.int .i64 1) (.int .i64 7) 3) rfl (by decide)).mono ?_
  rintro e w7 ⟨rfl, hb5⟩
  have hb := chain hb (chain hba hb5)
  clear hb5 hba
  go_wp2
  go_ret
  exact ⟨rfl, hb⟩

end Go.Proofs.Ytpdghmecodlhhaa.P6
