/-
  Layer 6, walks: letters, parts, what a text begins with.
-/
import Derived.Test.YtpdghmecodlhhaaM6b
import Derived.Test.YtpdghmecodlhhaaSt
namespace Go.Proofs.Ytpdghmecodlhhaa.P6
open Go.RowKit Go.PlainAid M6
set_option linter.unusedVariables false

theorem bs_toList (l : List UInt8) : (bs l).toList = l := by rw [ByteArray.toList_eq]; rfl
theorem bs_inj {a b : List UInt8} (h : bs a = bs b) : a = b := by rw [← bs_list a, h, bs_list]
theorem ret1b {a b : Bool} (h : a = b) : Ending.returned (.bool a) = Ending.returned (.bool b) := by rw [h]

set_option maxRecDepth 100000 in
set_option maxHeartbeats 400000 in
theorem letter_any (c : Nat) (w : World) : Calls Try.prog 31 #[.int .i32 (c : Int)] w fun e w' => e = .returned (.bool (letterN c)) ∧ w = w' := by
  go_enter Try.func31, Try.ntmps31
  go_wp2
  all_goals go_ret
  all_goals refine ⟨ret1b ?_, rfl⟩
  all_goals
    rw [Bool.eq_iff_iff]
    simp [letterN]
    try omega

set_option maxRecDepth 100000 in
set_option maxHeartbeats 400000 in
theorem part_any (c : Nat) (w : World) : Calls Try.prog 29 #[.int .i32 (c : Int)] w fun e w' => e = .returned (.bool (partN c)) ∧ w = w' := by
  unfold partN
  have hl : ∀ w, Calls Try.prog 31 #[.int .i32 (c : Int)] w fun e w' => e = .returned (.bool (letterN c)) ∧ w = w' := letter_any c
  cases h : letterN c
  all_goals
    rw [h] at hl
    go_enter Try.func29, Try.ntmps29
    go_wp2_with fail
    refine (hl _).mono ?_
    rintro e w1 ⟨rfl, rfl⟩
    clear hl
    go_wp2
  all_goals go_ret
  all_goals refine ⟨ret1b ?_, rfl⟩
  all_goals
    rw [Bool.eq_iff_iff]
    simp
    try omega

set_option maxRecDepth 100000 in
set_option maxHeartbeats 400000 in
theorem hasPre_in (a b : ByteArray) (w : World) (ha : a.size ≤ 9223372036854775807) (hb : b.size ≤ 9223372036854775807) : Calls Try.prog 34 #[.string a, .string b] w fun e w' => e = .returned (.bool (decide (a.data.toList.take b.size = b.data.toList))) ∧ w = w' := by
  have hla : a.data.toList.length = a.size := rfl
  have hlb : b.data.toList.length = b.size := rfl
  by_cases h : b.size ≤ a.size
  · have he : (a.extract 0 b.size) = bs (a.data.toList.take b.size) := by conv => lhs; rw [← bs_of a, ext_pre]
    have hd : decide (a.data.toList.take b.size = b.data.toList) = ((a.extract 0 b.size).toList == b.toList) := by
      rw [he, Bool.eq_iff_iff]
      simp only [decide_eq_true_eq, beq_iff_eq]
      constructor
      · intro h; rw [h, bs_of]
      · intro h
        rw [bs_toList] at h
        rw [h, ByteArray.toList_eq]
    rw [hd]
    clear hd he hla hlb
    go_enter Try.func34, Try.ntmps34
    go_wp2
    all_goals go_ret
    all_goals exact ⟨rfl, rfl⟩
  · have hd : decide (a.data.toList.take b.size = b.data.toList) = false := decide_eq_false (fun h2 => by
      have := congrArg List.length h2
      rw [List.length_take] at this
      omega)
    rw [hd]
    clear hd hla hlb
    go_enter Try.func34, Try.ntmps34
    go_wp2
    all_goals go_ret
    all_goals exact ⟨rfl, rfl⟩

set_option maxRecDepth 100000 in
set_option maxHeartbeats 400000 in
theorem hasPre_any (a b : ByteArray) (w : World) (ha : a.size ≤ 9223372036854775807) (hb : b.size ≤ 9223372036854775807) : Calls Try.prog 33 #[.string a, .string b] w fun e w' => e = .returned (.bool (decide (a.data.toList.take b.size = b.data.toList))) ∧ w = w' := by
  have HH := Lib.hid (hasPre_in a b)
  go_enter Try.func33, Try.ntmps33
  go_wp2_with fail
  refine (HH.out _ ha hb).mono ?_
  rintro e w1 ⟨rfl, rfl⟩
  go_wp2
  go_ret
  exact ⟨rfl, rfl⟩

/-- Of a piece: is it a letter, is it a part? -/
def letS (l : List UInt8) : Bool := match l with | [b] => letterN b.toNat | _ => false
def parS (l : List UInt8) : Bool := match l with | [b] => partN b.toNat | _ => false
theorem enc_many {c : Nat} (h : ¬ c < 128) : ∃ x y r, enc c = x :: y :: r := by
  unfold enc
  rw [if_neg h]
  split
  · exact ⟨_, _, _, rfl⟩
  · split
    · exact ⟨_, _, _, rfl⟩
    · exact ⟨_, _, _, rfl⟩
theorem letS_enc (c : Nat) : letS (enc c) = letterN c := by
  by_cases h : c < 128
  · rw [enc1 h]; show letterN _ = _; rw [to_of (by omega)]
  · obtain ⟨x, y, r, e⟩ := enc_many h
    rw [e]
    cases h2 : letterN c
    · rfl
    · exact absurd (part_lt (letter_part h2)) h
theorem parS_enc (c : Nat) : parS (enc c) = partN c := by
  by_cases h : c < 128
  · rw [enc1 h]; show partN _ = _; rw [to_of (by omega)]
  · obtain ⟨x, y, r, e⟩ := enc_many h
    rw [e]
    cases h2 : partN c
    · rfl
    · exact absurd (part_lt h2) h

set_option maxRecDepth 100000 in
set_option maxHeartbeats 400000 in
theorem refLetter_one (b : UInt8) (w : World) : Calls Try.prog 32 #[.string (bs [b])] w fun e w' => e = .returned (.bool (letterN b.toNat)) ∧ w = w' := by
  have hb : (bs [b]).size = 1 := rfl
  have hx : ∀ h : 0 < (bs [b]).size, (bs [b])[0]'h = b := fun _ => rfl
  go_enter Try.func32, Try.ntmps32
  go_wp2
  all_goals go_ret
  all_goals refine ⟨ret1b ?_, rfl⟩
  all_goals
    rw [Bool.eq_iff_iff]
    simp [letterN]
    try omega

end Go.Proofs.Ytpdghmecodlhhaa.P6
