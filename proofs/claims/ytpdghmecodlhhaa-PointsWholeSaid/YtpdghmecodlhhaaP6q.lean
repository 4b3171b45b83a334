/-
  Layer 6: the law on what is found.
-/
import Derived.Test.YtpdghmecodlhhaaP6p
namespace Go.Proofs.Ytpdghmecodlhhaa.P6
open Go.RowKit Go.PlainAid M6
set_option linter.unusedVariables false

def GivesPairs (l n : List UInt8) (ps : List (Nat × Nat)) (x : Int) : Prop :=
  ∀ w, Calls Try.prog 19 #[.string (bs l), .string (bs n)] w fun e w' => ∃ A c B d, e = .returned (.tuple #[.slice A ps.length c, .slice B ps.length d, .int .i64 x]) ∧ Rd w' A (ints (ps.map Prod.fst)) ∧ Rd w' B (ints (ps.map Prod.snd)) ∧ Below w.heap.size w w'
def GivesSpans (l n : List UInt8) (ps : List (Nat × Nat)) (x : Int) : Prop :=
  ∀ w, Calls Try.prog 20 #[.string (bs l), .string (bs n)] w fun e w' => ∃ A c, e = .returned (.tuple #[.slice A ps.length c, .int .i64 x]) ∧ Rd w' A (spc ps) ∧ Below w.heap.size w w'
theorem find_both (l n : List UInt8) (hz : l.length ≤ 1048576) (hn : n.length ≤ 1048576) : ∃ (ps : List (Nat × Nat)) (x : Int), ps.length ≤ 1048576 ∧ GivesPairs l n ps x ∧ GivesSpans l n ps x := by
  rcases txt_or l with hbad | ⟨cs, rfl, ht⟩
  · refine ⟨[], 60, by simp, fun w => ?_, fun w => ?_⟩
    · exact (find_bad hbad (by omega) _ w).mono fun e w' ⟨he, hw⟩ => ⟨none, 0, none, 0, he, .inl rfl, .inl rfl, hw⟩
    · exact (refFind_bad hbad (by omega) _ w).mono fun e w' ⟨he, hw⟩ => ⟨none, 0, he, .inl rfl, hw⟩
  · cases hi : identB n with
    | false =>
      refine ⟨[], 61, by simp, fun w => ?_, fun w => ?_⟩
      · exact (find_noid ht (by omega) hi (by omega) w).mono fun e w' ⟨he, hw⟩ => ⟨none, 0, none, 0, he, .inl rfl, .inl rfl, hw⟩
      · exact (refFind_noid ht (by omega) hi (by omega) w).mono fun e w' ⟨he, hw⟩ => ⟨none, 0, he, .inl rfl, hw⟩
    | true =>
      have hfl : (found (nums n) cs).length ≤ cs.length := found_le (by have := identB_ne hi; unfold nums; simpa using this) cs
      have := flat_len_le (cs := cs)
      exact ⟨found (nums n) cs, 0, by omega, fun w => find_good ht (by omega) hi (by omega) w, fun w => refFind_good ht (by omega) hi (by omega) w⟩

set_option maxRecDepth 100000 in
set_option maxHeartbeats 2000000 in
theorem lawFinds_in (w : World) (l n : List UInt8) (h : (bs l).size ≤ 1000) (h2 : (bs n).size ≤ 1000) :
    Calls Try.prog 5 #[.string (bs l), .string (bs n)] w fun e w' => e = .returned (.bool true) ∧ Below w.heap.size w w' := by
  obtain ⟨ps, x, hpl, h3, h4⟩ := find_both l n (by rw [bs_size] at h; omega) (by rw [bs_size] at h2; omega)
  have H1 := Lib.hid h3
  have H2 := Lib.hid h4
  have HI1 := Lib.hid (ident_any n (by rw [bs_size] at h2; omega))
  have HI2 := Lib.hid (refIdent_any n (by rw [bs_size] at h2; omega))
  clear h3 h4
  go_enter Try.func5, Try.ntmps5
  go_wp2_with fail
  refine (H1.out _).mono ?_
  rintro e w1 ⟨A, c, B, d, rfl, hr1, hr2, hb1⟩
  have R1 := Lib.hid hr1
  have R2 := Lib.hid hr2
  clear hr1 hr2
  go_wp2_with fail
  refine (H2.out _).mono ?_
  rintro e w2 ⟨C, q, rfl, hr3, hb2⟩
  have R1 := Lib.hid (R1.out.keep hb2)
  have R2 := Lib.hid (R2.out.keep hb2)
  have R3 := Lib.hid hr3
  have hb := chain hb1 hb2
  clear hr3 hb1 hb2 H1 H2
  go_wp2
  go_loopw [10] (fun si wr => ∃ k : Nat, k ≤ ps.length ∧ si = .int .i64 (k : Int) ∧ Below w2.heap.size w2 wr) (fun si _ => ps.length - (intOf si).toNat)
  case atStart => exact ⟨0, by omega, rfl, Below.refl _ _⟩
  case round =>
    obtain ⟨k, hk, rfl, hbw⟩ := hrel
    by_cases hlt : k < ps.length
    · obtain ⟨b1, off1, rfl, hbl1, hc1⟩ := (R1.out.keep hbw).get (k := k) (by simpa [ints] using hlt)
      obtain ⟨b2, off2, rfl, hbl2, hc2⟩ := (R2.out.keep hbw).get (k := k) (by simpa [ints] using hlt)
      rw [ints_get, List.getElem_map] at hc1 hc2
      obtain ⟨b3, off3, rfl, hbl3, hcx⟩ := (R3.out.keep hbw).get (k := k * 2) (by rw [spc_len]; omega)
      clear hcx
      obtain ⟨hc3, hc4⟩ := rd_span (R3.out.keep hbw) hlt
      generalize ps[k].1 = pb at *
      generalize ps[k].2 = pe at *
      go_wp2
      go_quiet (fail)
      go_wp2
      go_roundw
      case rel => exact ⟨k + 1, by omega, by go_num, below_drewN hbw nq⟩
      case measure => simp [intOf]; omega
    · obtain rfl : k = ps.length := by omega
      go_wp2_with fail
      refine (awake_any _).mono ?_
      rintro e w3 ⟨rfl, hb3⟩
      have hb := chain (chain hb hbw) hb3
      clear hb3
      go_wp2_with fail
      refine (HI1.out _).mono ?_
      rintro e w4 ⟨rfl, hb4⟩
      have hb := chain hb hb4
      clear hb4
      go_wp2_with fail
      refine (HI2.out _).mono ?_
      rintro e w5 ⟨rfl, rfl⟩
      go_wp2
      go_ret
      exact ⟨by simp, hb⟩

set_option maxRecDepth 100000 in
set_option maxHeartbeats 400000 in
theorem lawFinds_out (w : World) (s n : ByteArray) (h : 1000 < s.size ∨ (s.size ≤ 1000 ∧ 1000 < n.size)) (hz : s.size ≤ 140737488351232) (hz2 : n.size ≤ 140737488351232) :
    Calls Try.prog 5 #[.string s, .string n] w fun e w' => e = .returned (.bool true) ∧ Below w.heap.size w w' := by
  rcases h with h1 | ⟨h0, h1⟩
  all_goals
    go_enter Try.func5, Try.ntmps5
    go_wp2_with fail
    refine (awake_any _).mono ?_
    rintro e w5 ⟨rfl, hb2⟩
    go_wp2
    go_ret
    exact ⟨rfl, hb2⟩
theorem lawFinds (w : World) (s : ByteArray) (hz : s.size ≤ 140737488351232) (n : ByteArray) (hz2 : n.size ≤ 140737488351232) :
    Calls Try.prog 5 #[.string s, .string n] w fun e w' => e = .returned (.bool true) ∧ Below w.heap.size w w' := by
  by_cases h : s.size ≤ 1000 ∧ n.size ≤ 1000
  · obtain ⟨l, rfl, _⟩ := as_bs s
    obtain ⟨k, rfl, _⟩ := as_bs n
    exact lawFinds_in w l k h.1 h.2
  · exact lawFinds_out w s n (by omega) hz hz2

end Go.Proofs.Ytpdghmecodlhhaa.P6
