/-
  Layer 5, walks: the document's reading of a number.
-/
import Derived.Test.YthecofkkacieaaaDoorM5d
import Derived.Test.YthecofkkacieaaaDoorS5n
namespace Go.Proofs.YthecofkkacieaaaDoor.S5
open Go.RowKit Go.PlainAid Go.Shelf M5
set_option linter.unusedVariables false

theorem parse_any (s : List UInt8) (w : World) (he : Env w) (hz : s.length ≤ 140737488351232) :
    Calls Tryd.prog 25 #[.string (bs s)] w fun e w' => e = .returned (parsedV (parseR s)) ∧ Below w.heap.size w w' := by
  by_cases h3 : (M5.split 3 s).length = 3
  · have hm := split_mem 3 s
    match hs : M5.split 3 s, h3 with
    | [p0, p1, p2], _ =>
      rw [hs] at hm
      have q0 := hm p0 (by simp)
      have q1 := hm p1 (by simp)
      have q2 := hm p2 (by simp)
      exact parse_three s p0 p1 p2 w hz he hs ⟨by omega, by omega, by omega⟩
  · have hn : parseR s = none := M5.parse_few h3
    rw [hn]
    exact parse_few s w hz h3

theorem get_list {s : ByteArray} {k : Nat} (h : k < s.size) : s.data.toList[k]'(by simpa using h) = s[k] := rfl
theorem ext_from (s : ByteArray) (k : Nat) : s.extract k s.size = bs (s.data.toList.drop k) := ext_end s k

set_option maxRecDepth 100000 in
set_option maxHeartbeats 4000000 in
theorem number_any (s : ByteArray) (w : World) (hz : s.size ≤ 140737488351232) :
    Calls Tryd.prog 37 #[.string s] w fun e w' => e = .returned (.tuple #[.int .i64 (numR s.data.toList).1, .string (bs (numR s.data.toList).2)]) ∧ Below w.heap.size w w' := by
  have hl : s.data.toList.length = s.size := rfl
  have HL := Lib.hid hl
  clear hl
  go_enter Tryd.func37, Tryd.ntmps37
  go_wp2
  go_loop [4, 5] (fun n i => ∃ k v : Nat, k ≤ s.size ∧ k ≤ 16 ∧ i = .int .i64 (k : Int) ∧ n = .int .i64 (v : Int) ∧ Hid (v = val (s.data.toList.take k)) ∧ v ≤ 99999999999999999 ∧ Hid (∀ c ∈ s.data.toList.take k, dig c = true)) (fun _ i => 16 - (intOf i).toNat)
  case atStart => exact ⟨0, 0, by omega, by omega, rfl, rfl, rfl, by omega, fun c hc => by simp at hc⟩
  case round =>
    obtain ⟨k, v, hk, hk16, rfl, rfl, HV, hv, HD⟩ := hrel
    by_cases hcont : k < 16 ∧ ∃ h : k < s.size, dig s[k] = true
    · obtain ⟨h16, hlt, hdg⟩ := hcont
      have hb := dig_iff.1 hdg
      have h48 : (48 : Int) ≤ (s[k].toNat : Int) := by omega
      have h57 : (s[k].toNat : Int) ≤ 57 := by omega
      have HD2 := Lib.hid (dig_on (l := s.data.toList) (by rw [HL.out]; exact hlt) HD.out hdg)
      have hval := val_on (l := s.data.toList) (k := k) (by rw [HL.out]; exact hlt)
      rw [get_list hlt, ← HV.out] at hval
      have hlt15 := val_lt16 (l := s.data.toList.take k) (by rw [List.length_take]; omega) HD.out
      rw [← HV.out] at hlt15
      obtain ⟨u, hu⟩ : ∃ u, u = v * 10 + (s[k].toNat - 48) := ⟨_, rfl⟩
      have huz : (v : Int) * 10 + (s[k].toNat : Int) - 48 = (u : Int) := by omega
      have hul : u ≤ 99999999999999999 := by omega
      rw [← hu] at hval
      have HVAL := Lib.hid hval.symm
      have HUZ := Lib.hid huz
      clear hdg hb hval hu huz
      have hd1 : decide (48 ≤ (s[k].toNat : Int)) = true := by simpa using h48
      have hd2 : decide ((s[k].toNat : Int) ≤ 57) = true := by simpa using h57
      go_wp2
      go_round
      case rel => exact ⟨k + 1, u, by omega, by omega, by go_num, by rw [← HUZ.out], HVAL, hul, HD2⟩
      case measure => simp [intOf]; omega
    · have HK : Hid (head16 s.data.toList = s.data.toList.take k) := by
        refine head_end (by rw [HL.out]; exact hk) hk16 HD.out ?_
        by_cases h1 : k = s.size
        · left; rw [HL.out]; exact h1
        by_cases h2 : k = 16
        · right; left; exact h2
        right; right
        have hlt : k < s.size := by omega
        refine ⟨s[k], ?_, ?_⟩
        · rw [List.getElem?_eq_getElem (by rw [HL.out]; exact hlt), get_list hlt]
        · cases hd : dig s[k] with
          | false => rfl
          | true => exact absurd ⟨by omega, hlt, hd⟩ hcont
      have hR : s.size ≤ k ∨ (k < s.size ∧ 16 ≤ k) ∨ (∃ h : k < s.size, k < 16 ∧ decide (48 ≤ (s[k].toNat : Int)) = false) ∨ (∃ h : k < s.size, k < 16 ∧ decide (48 ≤ (s[k].toNat : Int)) = true ∧ decide ((s[k].toNat : Int) ≤ 57) = false) := by
        by_cases h1 : k < s.size
        rotate_left
        · left; omega
        by_cases h2 : k < 16
        rotate_left
        · right; left; exact ⟨h1, by omega⟩
        right; right
        by_cases h3 : 48 ≤ (s[k].toNat : Int)
        · right
          refine ⟨h1, h2, by simpa using h3, ?_⟩
          by_cases h4 : (s[k].toNat : Int) ≤ 57
          · exact absurd ⟨h2, h1, dig_iff.2 ⟨by omega, by omega⟩⟩ hcont
          · simpa using h4
        · left; exact ⟨h1, h2, by simpa using h3⟩
      have hnum := numR_at (l := s.data.toList) (k := k) (by rw [HL.out]; exact hk) HK.out
      have HE := Lib.hid (ext_from s k)
      clear hcont
      by_cases k0 : k = 0
      · rw [if_pos (.inl k0)] at hnum
        have HN := Lib.hid hnum
        have hkn : ((k : Int) == 0) = true := by simp; omega
        have hkl : k ≤ 0 := by omega
        clear hnum k0
        rcases hR with r1 | ⟨r1, r2⟩ | ⟨r1, r2, r3⟩ | ⟨r1, r2, r3, r4⟩
        all_goals go_wp2
        all_goals go_ret2
        all_goals exact ⟨by rw [HN.out]; rfl, Below.refl _ _⟩
      have hkn : ((k : Int) == 0) = false := by simp; omega
      have hk1 : 1 ≤ k := by omega
      clear k0
      by_cases k15 : 15 < k
      · rw [if_pos (.inr (.inl k15))] at hnum
        have HN := Lib.hid hnum
        clear hnum
        rcases hR with r1 | ⟨r1, r2⟩ | ⟨r1, r2, r3⟩ | ⟨r1, r2, r3, r4⟩
        all_goals go_wp2
        all_goals go_ret2
        all_goals exact ⟨by rw [HN.out]; rfl, Below.refl _ _⟩
      have h0s : 0 < s.size := by omega
      have hhd : s.data.toList.head? = some s[0] := by
        rw [List.head?_eq_getElem?, List.getElem?_eq_getElem (by rw [HL.out]; exact h0s), get_list h0s]
      have hkz : (0 : Int) ≤ (k : Int) := by omega
      have hkz2 : (k : Int) ≤ (s.size : Int) := by omega
      by_cases h48 : s[0] = 48
      · have hq : ((s[0].toNat : Int) == 48) = true := by rw [h48]; rfl
        by_cases k1 : 1 < k
        · rw [if_pos (.inr (.inr ⟨by rw [hhd, h48], k1⟩))] at hnum
          have HN := Lib.hid hnum
          clear hnum hhd h48
          rcases hR with r1 | ⟨r1, r2⟩ | ⟨r1, r2, r3⟩ | ⟨r1, r2, r3, r4⟩
          all_goals go_wp2
          all_goals go_ret2
          all_goals exact ⟨by rw [HN.out]; rfl, Below.refl _ _⟩
        · rw [if_neg (by rintro (h | h | ⟨_, h⟩) <;> omega)] at hnum
          rw [← HV.out] at hnum
          have HN := Lib.hid hnum
          clear hnum hhd h48
          rcases hR with r1 | ⟨r1, r2⟩ | ⟨r1, r2, r3⟩ | ⟨r1, r2, r3, r4⟩
          all_goals go_wp2
          all_goals go_quiet (fail)
          all_goals go_wp2
          all_goals go_ret2
          all_goals exact ⟨by rw [HN.out, ← HE.out]; rfl, below_drewN (Below.refl _ _) _⟩
      · have hne : s[0].toNat ≠ 48 := fun h => h48 (UInt8.toNat_inj.1 h)
        have hq : ((s[0].toNat : Int) == 48) = false := by simp; omega
        rw [if_neg (by rintro (h | h | ⟨h, _⟩); omega; omega; rw [hhd] at h; injection h with h; exact h48 h)] at hnum
        rw [← HV.out] at hnum
        have HN := Lib.hid hnum
        clear hnum hhd h48 hne
        rcases hR with r1 | ⟨r1, r2⟩ | ⟨r1, r2, r3⟩ | ⟨r1, r2, r3, r4⟩
        all_goals go_wp2
        all_goals go_quiet (fail)
        all_goals go_wp2
        all_goals go_ret2
        all_goals exact ⟨by rw [HN.out, ← HE.out]; rfl, below_drewN (Below.refl _ _) _⟩

end Go.Proofs.YthecofkkacieaaaDoor.S5
