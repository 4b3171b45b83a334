/-
  Layer 6: the laws on pieces, cuts, finds and replacements.
-/
import Derived.Test.YtpdghmecodlhhaaP6o
namespace Go.Proofs.Ytpdghmecodlhhaa.P6
open Go.RowKit Go.PlainAid M6
set_option linter.unusedVariables false

/-- A call that answers pieces and an error's number. -/
def GivesTexts (f : FuncId) (l : List UInt8) (cs : List Nat) (x : Int) : Prop :=
  ∀ w, Calls Try.prog f #[.string (bs l)] w fun e w' => ∃ A c, e = .returned (.tuple #[.slice A cs.length c, .int .i64 x]) ∧ Rd w' A (pcs cs) ∧ Below w.heap.size w w'
/-- A call that answers v. -/
def Gives (f : FuncId) (args : Array Value) (v : Value) : Prop := ∀ w, Calls Try.prog f args w fun e w' => e = .returned v ∧ Below w.heap.size w w'

theorem split_both (l : List UInt8) (hz : l.length ≤ 1048576) : ∃ (cs : List Nat) (x : Int), cs.length ≤ 1048576 ∧ GivesTexts 10 l cs x ∧ GivesTexts 11 l cs x ∧
    Gives 12 #[.string (bs l)] (.tuple #[.int .i64 (cs.length : Int), .int .i64 x]) ∧ Gives 13 #[.string (bs l)] (.tuple #[.int .i64 (cs.length : Int), .int .i64 x]) := by
  rcases txt_or l with hb | ⟨cs, rfl, ht⟩
  · refine ⟨[], 60, by simp, fun w => ?_, fun w => ?_, fun w => len_bad hb (by omega) w, fun w => refLen_bad hb (by omega) w⟩
    · exact (split_bad hb (by omega) w).mono fun e w' ⟨he, hw⟩ => ⟨none, 0, he, .inl rfl, hw⟩
    · exact (refSplit_bad hb (by omega) w).mono fun e w' ⟨he, hw⟩ => ⟨none, 0, he, .inl rfl, hw⟩
  · refine ⟨cs, 0, Nat.le_trans flat_len_le hz, fun w => ?_, fun w => ?_, fun w => len_good ht (by omega) w, fun w => refLen_good ht (by omega) w⟩
    · exact (split_good ht (by omega) w).mono fun e w' ⟨A, c, he, hr, _, hw⟩ => ⟨A, c, he, hr, hw⟩
    · exact (refSplit_good ht (by omega) w).mono fun e w' ⟨A, c, he, hr, _, hw⟩ => ⟨A, c, he, hr, hw⟩

theorem cut_both (l : List UInt8) (hz : l.length ≤ 1048576) (f t : Int) : ∃ (r : ByteArray) (x : Int), Gives 15 #[.string (bs l), .int .i64 f, .int .i64 t] (.tuple #[.string r, .int .i64 x]) ∧
    Gives 16 #[.string (bs l), .int .i64 f, .int .i64 t] (.tuple #[.string r, .int .i64 x]) := by
  rcases txt_or l with hb | ⟨cs, rfl, ht⟩
  · exact ⟨_, _, fun w => cut_bad hb (by omega) f t w, fun w => refCut_bad hb (by omega) f t w⟩
  · by_cases ho : OutC cs f t
    · exact ⟨_, _, fun w => cut_out ht (by omega) ho w, fun w => refCut_out ht (by omega) ho w⟩
    · unfold OutC at ho
      obtain ⟨a, rfl⟩ := Int.eq_ofNat_of_zero_le (show 0 ≤ f by omega)
      obtain ⟨b, rfl⟩ := Int.eq_ofNat_of_zero_le (show 0 ≤ t by omega)
      exact ⟨_, _, fun w => cut_good ht (by omega) (by omega) (by omega) w, fun w => refCut_good ht (by omega) (by omega) (by omega) w⟩

theorem put_both (l m : List UInt8) (hz : l.length ≤ 1048576) (hm : m.length ≤ 1048576) (i : Int) : ∃ (r : ByteArray) (x : Int), Gives 17 #[.string (bs l), .int .i64 i, .string (bs m)] (.tuple #[.string r, .int .i64 x]) ∧
    Gives 18 #[.string (bs l), .int .i64 i, .string (bs m)] (.tuple #[.string r, .int .i64 x]) := by
  rcases txt_or l with hb | ⟨cs, rfl, ht⟩
  · exact ⟨_, _, fun w => put_bad hb (by omega) i _ w, fun w => refPut_bad hb (by omega) i _ w⟩
  · rcases txt_or m with hb | ⟨ms, rfl, ht2⟩
    · exact ⟨_, _, fun w => put_bad2 ht (by omega) hb (by omega) i w, fun w => refPut_bad2 ht (by omega) hb (by omega) i w⟩
    · by_cases ho : i < 0 ∨ (cs.length : Int) < i
      · exact ⟨_, _, fun w => put_out ht (by omega) ht2 (by omega) ho w, fun w => refPut_out ht (by omega) ht2 (by omega) ho w⟩
      · obtain ⟨a, rfl⟩ := Int.eq_ofNat_of_zero_le (show 0 ≤ i by omega)
        exact ⟨_, _, fun w => put_good ht (by omega) ht2 (by omega) (by omega) w, fun w => refPut_good ht (by omega) ht2 (by omega) (by omega) w⟩

theorem repl_both (l n b : List UInt8) (hz : l.length ≤ 1048576) (hn : n.length ≤ 1048576) (hb : b.length ≤ 1048576) : ∃ (r : ByteArray) (k x : Int),
    Gives 23 #[.string (bs l), .string (bs n), .string (bs b)] (.tuple #[.string r, .int .i64 k, .int .i64 x]) ∧
    Gives 24 #[.string (bs l), .string (bs n), .string (bs b)] (.tuple #[.string r, .int .i64 k, .int .i64 x]) := by
  rcases txt_or l with hbad | ⟨cs, rfl, ht⟩
  · exact ⟨_, _, _, fun w => repl_bad hbad (by omega) _ _ w, fun w => refRepl_bad hbad (by omega) _ _ w⟩
  · cases hi : identB n with
    | false => exact ⟨_, _, _, fun w => repl_noid ht (by omega) hi (by omega) _ w, fun w => refRepl_noid ht (by omega) hi (by omega) _ w⟩
    | true =>
      cases hj : identB b with
      | false => exact ⟨_, _, _, fun w => repl_noby ht (by omega) hi (by omega) hj (by omega) w, fun w => refRepl_noby ht (by omega) hi (by omega) hj (by omega) w⟩
      | true => exact ⟨_, _, _, fun w => repl_good ht hz hi hn hj hb w, fun w => refRepl_good ht hz hi hn hj hb w⟩

theorem as_bs (s : ByteArray) : ∃ l, s = bs l ∧ l.length = s.size := ⟨s.data.toList, (bs_of s).symm, rfl⟩

set_option maxRecDepth 100000 in
set_option maxHeartbeats 1000000 in
theorem lawSplits_in (w : World) (l : List UInt8) (h : (bs l).size ≤ 3000) :
    Calls Try.prog 3 #[.string (bs l)] w fun e w' => e = .returned (.bool true) ∧ Below w.heap.size w w' := by
  obtain ⟨cs, x, hcl, h1, h2, h3, h4⟩ := split_both l (by rw [bs_size] at h; omega)
  have H1 := Lib.hid h1
  have H2 := Lib.hid h2
  have H3 := Lib.hid h3
  have H4 := Lib.hid h4
  clear h1 h2 h3 h4
  go_enter Try.func3, Try.ntmps3
  go_wp2_with fail
  refine (H1.out _).mono ?_
  rintro e w1 ⟨A, c, rfl, hr, hb1⟩
  have R1 := Lib.hid hr
  clear hr
  go_wp2_with fail
  refine (H2.out _).mono ?_
  rintro e w2 ⟨B, d, rfl, hr, hb2⟩
  have R1 := Lib.hid (R1.out.keep hb2)
  have R2 := Lib.hid hr
  have hb := chain hb1 hb2
  clear hr hb1 hb2
  go_wp2_with fail
  refine (H3.out _).mono ?_
  rintro e w3 ⟨rfl, hb2⟩
  have R1 := Lib.hid (R1.out.keep hb2)
  have R2 := Lib.hid (R2.out.keep hb2)
  have hb := chain hb hb2
  clear hb2
  go_wp2_with fail
  refine (H4.out _).mono ?_
  rintro e w4 ⟨rfl, hb2⟩
  have R1 := Lib.hid (R1.out.keep hb2)
  have R2 := Lib.hid (R2.out.keep hb2)
  have hb := chain hb hb2
  clear hb2
  go_wp2_with fail
  refine (awake_any _).mono ?_
  rintro e w5 ⟨rfl, hb2⟩
  have R1 := Lib.hid (R1.out.keep hb2)
  have R2 := Lib.hid (R2.out.keep hb2)
  have hb := chain hb hb2
  clear hb2
  go_wp2_with fail
  refine (sameTexts_any _ _ _ _ _ cs _ R1.out R2.out rfl (by omega)).mono ?_
  rintro e w6 ⟨rfl, hb2⟩
  go_wp2
  go_ret
  exact ⟨by simp, chain hb hb2⟩

set_option maxRecDepth 100000 in
set_option maxHeartbeats 400000 in
theorem lawSplits_out (w : World) (s : ByteArray) (h : 3000 < s.size) (hz : s.size ≤ 140737488351232) :
    Calls Try.prog 3 #[.string s] w fun e w' => e = .returned (.bool true) ∧ Below w.heap.size w w' := by
  go_enter Try.func3, Try.ntmps3
  go_wp2_with fail
  refine (awake_any _).mono ?_
  rintro e w5 ⟨rfl, hb2⟩
  go_wp2
  go_ret
  exact ⟨rfl, hb2⟩
theorem lawSplits (w : World) (s : ByteArray) (hz : s.size ≤ 140737488351232) :
    Calls Try.prog 3 #[.string s] w fun e w' => e = .returned (.bool true) ∧ Below w.heap.size w w' := by
  by_cases h : s.size ≤ 3000
  · obtain ⟨l, rfl, _⟩ := as_bs s
    exact lawSplits_in w l h
  · exact lawSplits_out w s (by omega) hz

set_option maxRecDepth 100000 in
set_option maxHeartbeats 1000000 in
theorem lawCuts_in (w : World) (l : List UInt8) (f t : Int) (m : List UInt8) (h : (bs l).size ≤ 3000) (h2 : (bs m).size ≤ 3000) :
    Calls Try.prog 4 #[.string (bs l), .int .i64 f, .int .i64 t, .string (bs m)] w fun e w' => e = .returned (.bool true) ∧ Below w.heap.size w w' := by
  obtain ⟨r, x, h1, h3⟩ := cut_both l (by rw [bs_size] at h; omega) f t
  obtain ⟨r2, x2, h4, h5⟩ := put_both l m (by rw [bs_size] at h; omega) (by rw [bs_size] at h2; omega) f
  have H1 := Lib.hid h1
  have H2 := Lib.hid h3
  have H3 := Lib.hid h4
  have H4 := Lib.hid h5
  clear h1 h3 h4 h5
  go_enter Try.func4, Try.ntmps4
  go_wp2_with fail
  refine (H1.out _).mono ?_
  rintro e w1 ⟨rfl, hb⟩
  go_wp2_with fail
  refine (H2.out _).mono ?_
  rintro e w2 ⟨rfl, hb2⟩
  have hb := chain hb hb2
  clear hb2
  go_wp2_with fail
  refine (H3.out _).mono ?_
  rintro e w3 ⟨rfl, hb2⟩
  have hb := chain hb hb2
  clear hb2
  go_wp2_with fail
  refine (H4.out _).mono ?_
  rintro e w4 ⟨rfl, hb2⟩
  have hb := chain hb hb2
  clear hb2
  go_wp2_with fail
  refine (awake_any _).mono ?_
  rintro e w5 ⟨rfl, hb2⟩
  have hb := chain hb hb2
  clear hb2
  go_wp2
  go_ret
  exact ⟨by simp, hb⟩

set_option maxRecDepth 100000 in
set_option maxHeartbeats 400000 in
theorem lawCuts_out (w : World) (s : ByteArray) (f t : Int) (m : ByteArray) (h : 3000 < s.size ∨ 3000 < m.size) (hz : s.size ≤ 140737488351232) (hz2 : m.size ≤ 140737488351232) :
    Calls Try.prog 4 #[.string s, .int .i64 f, .int .i64 t, .string m] w fun e w' => e = .returned (.bool true) ∧ Below w.heap.size w w' := by
  rcases Nat.lt_or_ge 3000 s.size with h1 | h1
  · go_enter Try.func4, Try.ntmps4
    go_wp2_with fail
    refine (awake_any _).mono ?_
    rintro e w5 ⟨rfl, hb2⟩
    go_wp2
    go_ret
    exact ⟨rfl, hb2⟩
  · have h3 : 3000 < m.size := by omega
    clear h
    go_enter Try.func4, Try.ntmps4
    go_wp2_with fail
    refine (awake_any _).mono ?_
    rintro e w5 ⟨rfl, hb2⟩
    go_wp2
    go_ret
    exact ⟨rfl, hb2⟩
theorem lawCuts (w : World) (s : ByteArray) (hz : s.size ≤ 140737488351232) (f : Int) (f1 : -9223372036854775808 ≤ f) (f2 : f ≤ 9223372036854775807) (t : Int) (t1 : -9223372036854775808 ≤ t) (t2 : t ≤ 9223372036854775807) (m : ByteArray) (hz2 : m.size ≤ 140737488351232) :
    Calls Try.prog 4 #[.string s, .int .i64 f, .int .i64 t, .string m] w fun e w' => e = .returned (.bool true) ∧ Below w.heap.size w w' := by
  by_cases h : s.size ≤ 3000 ∧ m.size ≤ 3000
  · obtain ⟨l, rfl, _⟩ := as_bs s
    obtain ⟨k, rfl, _⟩ := as_bs m
    exact lawCuts_in w l f t k h.1 h.2
  · exact lawCuts_out w s f t m (by omega) hz hz2

set_option maxRecDepth 100000 in
set_option maxHeartbeats 1000000 in
theorem lawReplaces_in (w : World) (l n b : List UInt8) (h : (bs l).size ≤ 1000) (h2 : (bs n).size ≤ 1000) (h3 : (bs b).size ≤ 1000) :
    Calls Try.prog 6 #[.string (bs l), .string (bs n), .string (bs b)] w fun e w' => e = .returned (.bool true) ∧ Below w.heap.size w w' := by
  obtain ⟨r, k, x, h4, h5⟩ := repl_both l n b (by rw [bs_size] at h; omega) (by rw [bs_size] at h2; omega) (by rw [bs_size] at h3; omega)
  have H1 := Lib.hid h4
  have H2 := Lib.hid h5
  clear h4 h5
  go_enter Try.func6, Try.ntmps6
  go_wp2_with fail
  refine (H1.out _).mono ?_
  rintro e w1 ⟨rfl, hb⟩
  go_wp2_with fail
  refine (H2.out _).mono ?_
  rintro e w2 ⟨rfl, hb2⟩
  have hb := chain hb hb2
  clear hb2
  go_wp2_with fail
  refine (awake_any _).mono ?_
  rintro e w5 ⟨rfl, hb2⟩
  have hb := chain hb hb2
  clear hb2
  go_wp2
  go_ret
  exact ⟨by simp, hb⟩

set_option maxRecDepth 100000 in
set_option maxHeartbeats 400000 in
theorem lawReplaces_out (w : World) (s n b : ByteArray) (h : 1000 < s.size ∨ (s.size ≤ 1000 ∧ 1000 < n.size) ∨ (s.size ≤ 1000 ∧ n.size ≤ 1000 ∧ 1000 < b.size)) (hz : s.size ≤ 140737488351232) (hz2 : n.size ≤ 140737488351232) (hz3 : b.size ≤ 140737488351232) :
    Calls Try.prog 6 #[.string s, .string n, .string b] w fun e w' => e = .returned (.bool true) ∧ Below w.heap.size w w' := by
  rcases h with h1 | ⟨h0, h1⟩ | ⟨h0, h2, h1⟩
  all_goals
    go_enter Try.func6, Try.ntmps6
    go_wp2_with fail
    refine (awake_any _).mono ?_
    rintro e w5 ⟨rfl, hb2⟩
    go_wp2
    go_ret
    exact ⟨rfl, hb2⟩
theorem lawReplaces (w : World) (s : ByteArray) (hz : s.size ≤ 140737488351232) (n : ByteArray) (hz2 : n.size ≤ 140737488351232) (b : ByteArray) (hz3 : b.size ≤ 140737488351232) :
    Calls Try.prog 6 #[.string s, .string n, .string b] w fun e w' => e = .returned (.bool true) ∧ Below w.heap.size w w' := by
  by_cases h : s.size ≤ 1000 ∧ n.size ≤ 1000 ∧ b.size ≤ 1000
  · obtain ⟨l, rfl, _⟩ := as_bs s
    obtain ⟨k, rfl, _⟩ := as_bs n
    obtain ⟨j, rfl, _⟩ := as_bs b
    exact lawReplaces_in w l k j h.1 h.2.1 h.2.2
  · exact lawReplaces_out w s n b (by omega) hz hz2 hz3

end Go.Proofs.Ytpdghmecodlhhaa.P6
