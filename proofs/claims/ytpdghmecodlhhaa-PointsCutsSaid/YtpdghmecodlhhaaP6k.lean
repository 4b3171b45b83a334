/-
  Layer 6, walks: the document's Put.
-/
import Derived.Test.YtpdghmecodlhhaaP6j
namespace Go.Proofs.Ytpdghmecodlhhaa.P6
open Go.RowKit Go.PlainAid M6
set_option linter.unusedVariables false

set_option maxRecDepth 100000 in
set_option maxHeartbeats 400000 in
theorem refPut_bad {l : List UInt8} (h : Bad l) (hz : l.length ≤ 1099511627776) (i : Int) (m : ByteArray) (w : World) :
    Calls Try.prog 18 #[.string (bs l), .int .i64 i, .string m] w fun e w' => e = .returned (.tuple #[.string ⟨#[]⟩, .int .i64 60]) ∧ Below w.heap.size w w' := by
  have HR := Lib.hid (refSplit_bad h hz)
  clear h hz
  generalize bs l = s at *
  go_enter Try.func18, Try.ntmps18
  go_wp2_with fail
  refine (HR.out _).mono ?_
  rintro e w1 ⟨rfl, hb⟩
  go_wp2
  go_ret2
  exact ⟨rfl, hb⟩

set_option maxRecDepth 100000 in
set_option maxHeartbeats 400000 in
theorem refPut_bad2 {cs : List Nat} (h : Txt cs) (hz : (flat cs).length ≤ 1099511627776) {l : List UInt8} (h2 : Bad l) (hz2 : l.length ≤ 1099511627776) (i : Int) (w : World) :
    Calls Try.prog 18 #[.string (bs (flat cs)), .int .i64 i, .string (bs l)] w fun e w' => e = .returned (.tuple #[.string ⟨#[]⟩, .int .i64 60]) ∧ Below w.heap.size w w' := by
  have HR := Lib.hid (refSplit_good h hz)
  have HR2 := Lib.hid (refSplit_bad h2 hz2)
  clear h hz h2 hz2
  generalize bs (flat cs) = s at *
  generalize bs l = m at *
  go_enter Try.func18, Try.ntmps18
  go_wp2_with fail
  refine (HR.out _).mono ?_
  rintro e w1 ⟨A, c, rfl, hr, _, hb⟩
  clear hr
  go_wp2_with fail
  refine (HR2.out _).mono ?_
  rintro e w2 ⟨rfl, hb2⟩
  go_wp2
  go_ret2
  exact ⟨rfl, chain hb hb2⟩

set_option maxRecDepth 100000 in
set_option maxHeartbeats 400000 in
theorem refPut_out {cs ms : List Nat} (h : Txt cs) (hz : (flat cs).length ≤ 1099511627776) (h2 : Txt ms) (hz2 : (flat ms).length ≤ 1099511627776) {i : Int} (ho : i < 0 ∨ (cs.length : Int) < i) (w : World) :
    Calls Try.prog 18 #[.string (bs (flat cs)), .int .i64 i, .string (bs (flat ms))] w fun e w' => e = .returned (.tuple #[.string ⟨#[]⟩, .int .i64 100]) ∧ Below w.heap.size w w' := by
  have HR := Lib.hid (refSplit_good h hz)
  have HR2 := Lib.hid (refSplit_good h2 hz2)
  clear h hz h2 hz2
  generalize bs (flat cs) = s at *
  generalize bs (flat ms) = m at *
  go_enter Try.func18, Try.ntmps18
  go_wp2_with fail
  refine (HR.out _).mono ?_
  rintro e w1 ⟨A, c, rfl, hr, _, hb⟩
  clear hr HR
  go_wp2_with fail
  refine (HR2.out _).mono ?_
  rintro e w2 ⟨A2, c2, rfl, hr, _, hb2⟩
  clear hr HR2
  go_wp2
  all_goals first | (go_ret2; exact ⟨rfl, chain hb hb2⟩) | (exfalso; omega)

set_option maxRecDepth 100000 in
set_option maxHeartbeats 1000000 in
theorem refPut_good {cs ms : List Nat} (h : Txt cs) (hz : (flat cs).length ≤ 1099511627776) (h2 : Txt ms) (hz2 : (flat ms).length ≤ 1099511627776) {i : Nat} (ho : i ≤ cs.length) (w : World) :
    Calls Try.prog 18 #[.string (bs (flat cs)), .int .i64 (i : Int), .string (bs (flat ms))] w fun e w' => e = .returned (.tuple #[.string (bs (flat (putL cs ms i))), .int .i64 0]) ∧ Below w.heap.size w w' := by
  have HR := Lib.hid (refSplit_good h hz)
  have HR2 := Lib.hid (refSplit_good h2 hz2)
  have hl1 : (flat (cs.take i)).length + (flat (cs.drop i)).length = (flat cs).length := by
    conv => rhs; rw [← List.take_append_drop i cs, flat_append, List.length_append]
  have hcl : cs.length ≤ 1099511627776 := Nat.le_trans flat_len_le hz
  have hj1 : (flat (cs.take i)).length ≤ 140737488351232 := by omega
  have hj2 : (flat (cs.drop i)).length ≤ 140737488351232 := by omega
  have hsz1 : (bs (flat (cs.take i))).size + (bs (flat ms)).size ≤ 9223372036854775807 := by rw [bs_size, bs_size]; omega
  have hsz2 : (bs (flat (cs.take i))).size + (bs (flat ms)).size + (bs (flat (cs.drop i))).size ≤ 9223372036854775807 := by rw [bs_size, bs_size, bs_size]; omega
  have HP : Hid (bs (flat (cs.take i)) ++ bs (flat ms) ++ bs (flat (cs.drop i)) = bs (flat (putL cs ms i))) := by show _ = _; unfold putL; rw [flat_append, flat_append, bs_join, bs_join]
  have HJ1 := Lib.hid hj1
  have HJ2 := Lib.hid hj2
  clear h hz h2 hz2 hl1 hj1 hj2
  generalize bs (flat cs) = s at *
  generalize bs (flat ms) = m at *
  go_enter Try.func18, Try.ntmps18
  go_wp2_with fail
  refine (HR.out _).mono ?_
  rintro e w1 ⟨A, c, rfl, hr, hc, hb⟩
  have HRD := Lib.hid hr
  clear hr HR
  go_wp2_with fail
  refine (HR2.out _).mono ?_
  rintro e w2 ⟨A', c', rfl, hr, _, hb2⟩
  clear hr
  have hr := HRD.out.keep hb2
  have s1 : Rd w2 A (pcs (cs.take i)) := by
    have := pcs_sub hr hc (f := 0) (t := i) (by omega) ho
    unfold P6.sub at this
    rw [List.drop_zero, Nat.sub_zero] at this
    split at this
    · exact this
    · rw [add_zero] at this; exact this
  have s2 := pcs_sub hr hc (f := i) (t := cs.length) ho (Nat.le_refl _)
  rw [show (cs.drop i).take (cs.length - i) = cs.drop i by rw [List.take_of_length_le (by simp)]] at s2
  have j1 : ∀ q, Calls Try.prog 28 #[.slice A i c] (w2.drewN q) fun e w' => e = .returned (.string (bs (flat (cs.take i)))) ∧ w' = w2.drewN q := fun q =>
    (join_any (w := w2.drewN q) (s1.drewN q) (by simp; omega) HJ1.out).mono fun _ _ ⟨a, b⟩ => ⟨a, b.symm⟩
  have j2 : ∀ q, Calls Try.prog 28 #[.slice (sub A c i) (cs.length - i) (c - i)] (w2.drewN q) fun e w' => e = .returned (.string (bs (flat (cs.drop i)))) ∧ w' = w2.drewN q := fun q =>
    (join_any (w := w2.drewN q) (s2.drewN q) (by simp) HJ2.out).mono fun _ _ ⟨a, b⟩ => ⟨a, b.symm⟩
  have hbf := chain hb hb2
  have hic : i ≤ c := by omega
  have J1 := Lib.hid j1
  clear hr HR2 s1 s2 HRD j1
  generalize bs (flat (cs.take i)) = p1 at *
  generalize bs (flat (cs.drop i)) = p2 at *
  have hn1 : ¬ 9223372036854775807 < p1.size + m.size := by omega
  have hn2 : ¬ 9223372036854775807 < p1.size + m.size + p2.size := by omega
  by_cases hci : c = i
  · unfold P6.sub at j2
    rw [if_pos hci] at j2
    subst hci
    have hlc : cs.length = c := by omega
    rw [hlc, Nat.sub_self c] at j2
    have J2 := Lib.hid j2
    rw [hlc]
    clear hic ho hc hlc hcl j2
    go_wp2
    refine wp_region_quiet_lit (by kernel_rfl) (by kernel_rfl) ?_
    quiet_step (fail)
    quiet_step (fail)
    quiet_step (fail)
    quiet_step ((go_at_call 28; exact Calls.quiet_of_same (J1.out _)))
    quiet_step (fail)
    quiet_step (fail)
    quiet_step (fail)
    quiet_step (fail)
    quiet_step (fail)
    quiet_step ((go_at_call 28; exact Calls.quiet_of_same (J2.out _)))
    quiet_step (fail)
    quiet_step (fail)
    quiet_step (fail)
    refine wpQuiet_nil ?_
    intro _ hw'
    obtain ⟨nq, hw''⟩ := hw'
    subst hw''
    go_wp2
    go_ret2
    exact ⟨by rw [← HP.out]; rfl, below_drewN hbf nq⟩
  · unfold P6.sub at j2
    rw [if_neg hci] at j2
    have J2 := Lib.hid j2
    clear j2
    go_wp2
    refine wp_region_quiet_lit (by kernel_rfl) (by kernel_rfl) ?_
    quiet_step (fail)
    quiet_step (fail)
    quiet_step (fail)
    quiet_step ((go_at_call 28; exact Calls.quiet_of_same (J1.out _)))
    quiet_step (fail)
    quiet_step (fail)
    quiet_step (fail)
    quiet_step (fail)
    quiet_step (fail)
    quiet_step ((go_at_call 28; exact Calls.quiet_of_same (J2.out _)))
    quiet_step (fail)
    quiet_step (fail)
    quiet_step (fail)
    refine wpQuiet_nil ?_
    intro _ hw'
    obtain ⟨nq, hw''⟩ := hw'
    subst hw''
    go_wp2
    go_ret2
    exact ⟨by rw [← HP.out]; rfl, below_drewN hbf nq⟩

end Go.Proofs.Ytpdghmecodlhhaa.P6
