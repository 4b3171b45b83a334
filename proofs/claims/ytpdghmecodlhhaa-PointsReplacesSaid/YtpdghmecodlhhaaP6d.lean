/-
  Layer 6, walks: Put.
-/
import Derived.Test.YtpdghmecodlhhaaP6c
namespace Go.Proofs.Ytpdghmecodlhhaa.P6
open Go.RowKit Go.PlainAid M6
set_option linter.unusedVariables false

set_option maxRecDepth 100000 in
set_option maxHeartbeats 400000 in
theorem put_bad {l : List UInt8} (h : Bad l) (hz : l.length ≤ 1099511627776) (i : Int) (m : ByteArray) (w : World) :
    Calls Try.prog 17 #[.string (bs l), .int .i64 i, .string m] w fun e w' => e = .returned (.tuple #[.string ⟨#[]⟩, .int .i64 60]) ∧ Below w.heap.size w w' := by
  have HR := Lib.hid (read_bad h hz)
  clear h hz
  generalize bs l = s at *
  go_enter Try.func17, Try.ntmps17
  go_wp2_with fail
  refine (HR.out _).mono ?_
  rintro e w1 ⟨rfl, hb⟩
  go_wp2
  go_ret2
  exact ⟨rfl, hb⟩

set_option maxRecDepth 100000 in
set_option maxHeartbeats 400000 in
theorem put_bad2 {cs : List Nat} (h : Txt cs) (hz : (flat cs).length ≤ 1099511627776) {l : List UInt8} (h2 : Bad l) (hz2 : l.length ≤ 1099511627776) (i : Int) (w : World) :
    Calls Try.prog 17 #[.string (bs (flat cs)), .int .i64 i, .string (bs l)] w fun e w' => e = .returned (.tuple #[.string ⟨#[]⟩, .int .i64 60]) ∧ Below w.heap.size w w' := by
  have HR := Lib.hid (read_good h hz)
  have HR2 := Lib.hid (read_bad h2 hz2)
  clear h hz h2 hz2
  generalize bs (flat cs) = s at *
  generalize bs l = m at *
  go_enter Try.func17, Try.ntmps17
  go_wp2_with fail
  refine (HR.out _).mono ?_
  rintro e w1 ⟨A, c, rfl, hr, _, _, hb⟩
  clear hr
  go_wp2_with fail
  refine (HR2.out _).mono ?_
  rintro e w2 ⟨rfl, hb2⟩
  go_wp2
  go_ret2
  exact ⟨rfl, chain hb hb2⟩

set_option maxRecDepth 100000 in
set_option maxHeartbeats 400000 in
theorem put_out {cs ms : List Nat} (h : Txt cs) (hz : (flat cs).length ≤ 1099511627776) (h2 : Txt ms) (hz2 : (flat ms).length ≤ 1099511627776) {i : Int} (ho : i < 0 ∨ (cs.length : Int) < i) (w : World) :
    Calls Try.prog 17 #[.string (bs (flat cs)), .int .i64 i, .string (bs (flat ms))] w fun e w' => e = .returned (.tuple #[.string ⟨#[]⟩, .int .i64 100]) ∧ Below w.heap.size w w' := by
  have HR := Lib.hid (read_good h hz)
  have HR2 := Lib.hid (read_good h2 hz2)
  clear h hz h2 hz2
  generalize bs (flat cs) = s at *
  generalize bs (flat ms) = m at *
  go_enter Try.func17, Try.ntmps17
  go_wp2_with fail
  refine (HR.out _).mono ?_
  rintro e w1 ⟨A, c, rfl, hr, _, _, hb⟩
  clear hr HR
  go_wp2_with fail
  refine (HR2.out _).mono ?_
  rintro e w2 ⟨A2, c2, rfl, hr, _, _, hb2⟩
  clear hr HR2
  go_wp2
  all_goals first | (go_ret2; exact ⟨rfl, chain hb hb2⟩) | (exfalso; omega)

theorem add_run {P : Program} {a b : List UInt8} (h : a.length + b.length ≤ 140737488351232) (w : World) : (Op.stringOp .add (bs a) (bs b)).run P w = .ok (.string (bs (a ++ b))) w := by
  rw [run_string_add_sum (P := P) (w := w) (a := bs a) (b := bs b) (by rw [bs_size, bs_size]; omega), bs_join]

theorem add_zero (A : Option Addr) : A.map (·.add 0) = A := by
  cases A with
  | none => rfl
  | some a => unfold Addr.add; obtain ⟨b, o, sp⟩ := a; cases sp <;> simp
theorem slice_to {A : Option Addr} {n c i : Nat} (h : i ≤ c) (w : World) :
    (Instr.sliceAt 49 (.slice A n c) none (some (.int .i64 (i : Int))) none).run Try.prog w = .ok (.slice A i c) w := by
  have h2 : (i : Int) ≤ (c : Int) := by omega
  have h0 : (0 : Int) ≤ (i : Int) := by omega
  go_simp
theorem slice_from {A : Option Addr} {n c i : Nat} (h : i ≤ n) (w : World) :
    (Instr.sliceAt 49 (.slice A n c) (some (.int .i64 (i : Int))) none none).run Try.prog w = .ok (.slice (sub A c i) (n - i) (c - i)) w := by
  have h2 : (i : Int) ≤ (n : Int) := by omega
  have h0 : (0 : Int) ≤ (i : Int) := by omega
  go_simp
  rfl
/-- A text with more in it. -/
def putL (cs ms : List Nat) (i : Nat) : List Nat := cs.take i ++ ms ++ cs.drop i

set_option maxRecDepth 100000 in
set_option maxHeartbeats 1000000 in
theorem put_good {cs ms : List Nat} (h : Txt cs) (hz : (flat cs).length ≤ 1099511627776) (h2 : Txt ms) (hz2 : (flat ms).length ≤ 1099511627776) {i : Nat} (ho : i ≤ cs.length) (w : World) :
    Calls Try.prog 17 #[.string (bs (flat cs)), .int .i64 (i : Int), .string (bs (flat ms))] w fun e w' => e = .returned (.tuple #[.string (bs (flat (putL cs ms i))), .int .i64 0]) ∧ Below w.heap.size w w' := by
  have HR := Lib.hid (read_good h hz)
  have HR2 := Lib.hid (read_good h2 hz2)
  have hl1 : (flat (cs.take i)).length + (flat (cs.drop i)).length = (flat cs).length := by
    conv => rhs; rw [← List.take_append_drop i cs, flat_append, List.length_append]
  have hcl : cs.length ≤ 1099511627776 := Nat.le_trans flat_len_le hz
  have HT := Lib.hid h
  have hsz1 : (bs (flat (cs.take i))).size + (bs (flat ms)).size ≤ 9223372036854775807 := by rw [bs_size, bs_size]; omega
  have hsz2 : (bs (flat (cs.take i))).size + (bs (flat ms)).size + (bs (flat (cs.drop i))).size ≤ 9223372036854775807 := by rw [bs_size, bs_size, bs_size]; omega
  have HP : Hid (bs (flat (cs.take i)) ++ bs (flat ms) ++ bs (flat (cs.drop i)) = bs (flat (putL cs ms i))) := by show _ = _; unfold putL; rw [flat_append, flat_append, bs_join, bs_join]
  clear h hz h2 hz2 hl1
  generalize bs (flat cs) = s at *
  generalize bs (flat ms) = m at *
  go_enter Try.func17, Try.ntmps17
  go_wp2_with fail
  refine (HR.out _).mono ?_
  rintro e w1 ⟨A, c, rfl, hr, hc, hm, hb⟩
  have HRD := Lib.hid hr
  clear hr HR
  go_wp2_with fail
  refine (HR2.out _).mono ?_
  rintro e w2 ⟨A', c', rfl, hr, _, _, hb2⟩
  have hr := HRD.out.keep hb2
  have s1 : Rd w2 A (rns (cs.take i)) := by
    have := Rd.sub hr (f := 0) (t := i) (by rw [rns_len]; exact hc) (by omega) (by rw [rns_len]; exact ho)
    rw [show ((rns cs).drop 0).take (i - 0) = rns (cs.take i) by simp [rns, List.map_take]] at this
    unfold P6.sub at this
    split at this
    · exact this
    · rw [add_zero] at this; exact this
  have s2 := Rd.sub hr (f := i) (t := cs.length) (by rw [rns_len]; exact hc) ho (by rw [rns_len]; exact Nat.le_refl _)
  rw [show ((rns cs).drop i).take (cs.length - i) = rns (cs.drop i) by rw [List.take_of_length_le (by simp [rns_len])]; simp [rns, List.map_drop]] at s2
  have c1 := fun (q : Nat) => rd_string (w := w2.drewN q) (c := c) (s1.drewN q) (n := i) (by simp; omega) (HT.out.take i)
  have c2 := fun (q : Nat) => rd_string (w := w2.drewN q) (c := c - i) (s2.drewN q) (n := cs.length - i) (by simp) (HT.out.drop i)
  have hbf := chain hb hb2
  have hic : i ≤ c := by omega
  clear hr HR2 s1 s2 HRD
  generalize bs (flat (cs.take i)) = p1 at c1 hsz1 hsz2 HP
  generalize bs (flat (cs.drop i)) = p2 at c2 hsz2 HP
  by_cases hci : c = i
  · unfold P6.sub at c2
    rw [if_pos hci] at c2
    subst hci
    rw [Nat.sub_self c] at c2
    have hlc : cs.length = c := by omega
    rw [hlc, Nat.sub_self c] at c2
    rw [hlc]
    clear hic ho hc hlc hcl
    have hn1 : ¬ 9223372036854775807 < p1.size + m.size := by omega
    have hn2 : ¬ 9223372036854775807 < p1.size + m.size + p2.size := by omega
    go_wp2
    go_quiet (fail)
    go_wp2
    go_ret2
    exact ⟨by rw [← HP.out]; rfl, below_drewN hbf nq⟩
  · unfold P6.sub at c2
    rw [if_neg hci] at c2
    go_wp2
    go_quiet (fail)
    go_wp2
    go_ret2
    exact ⟨by rw [← HP.out]; rfl, below_drewN hbf nq⟩

end Go.Proofs.Ytpdghmecodlhhaa.P6
