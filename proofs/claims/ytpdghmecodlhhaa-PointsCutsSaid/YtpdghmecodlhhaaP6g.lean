/-
  Layer 6, walks: Find where it refuses, Replace.
-/
import Derived.Test.YtpdghmecodlhhaaP6f
import Derived.Laws.IdiomStrings
namespace Go.Proofs.Ytpdghmecodlhhaa.P6
open Go.RowKit Go.PlainAid M6
set_option linter.unusedVariables false

set_option maxRecDepth 100000 in
set_option maxHeartbeats 400000 in
theorem find_bad {l : List UInt8} (h : Bad l) (hz : l.length ≤ 1099511627776) (n : ByteArray) (w : World) :
    Calls Try.prog 19 #[.string (bs l), .string n] w fun e w' => e = .returned (.tuple #[.slice none 0 0, .slice none 0 0, .int .i64 60]) ∧ Below w.heap.size w w' := by
  have HR := Lib.hid (read_bad h hz)
  clear h hz
  generalize bs l = s at *
  go_enter Try.func19, Try.ntmps19
  go_wp2_with fail
  refine (HR.out _).mono ?_
  rintro e w1 ⟨rfl, hb⟩
  go_wp2
  go_ret3
  exact ⟨rfl, hb⟩

set_option maxRecDepth 100000 in
set_option maxHeartbeats 400000 in
theorem find_noid {cs : List Nat} (h : Txt cs) (hz : (flat cs).length ≤ 1099511627776) {nm : List UInt8} (hn : identB nm = false) (hz2 : nm.length ≤ 1099511627776) (w : World) :
    Calls Try.prog 19 #[.string (bs (flat cs)), .string (bs nm)] w fun e w' => e = .returned (.tuple #[.slice none 0 0, .slice none 0 0, .int .i64 61]) ∧ Below w.heap.size w w' := by
  have HR := Lib.hid (read_good h hz)
  have hid := ident_any nm (by omega)
  rw [hn] at hid
  have HI := Lib.hid hid
  clear h hz hid hn
  generalize bs (flat cs) = s at *
  go_enter Try.func19, Try.ntmps19
  go_wp2_with fail
  refine (HR.out _).mono ?_
  rintro e w1 ⟨A, c, rfl, hr, hc, hm, hb⟩
  clear hr HR
  go_wp2_with fail
  refine (HI.out _).mono ?_
  rintro e w2 ⟨rfl, hb2⟩
  go_wp2
  go_ret3
  exact ⟨rfl, chain hb hb2⟩

set_option maxRecDepth 100000 in
set_option maxHeartbeats 400000 in
theorem repl_bad {l : List UInt8} (h : Bad l) (hz : l.length ≤ 1099511627776) (n b : ByteArray) (w : World) :
    Calls Try.prog 23 #[.string (bs l), .string n, .string b] w fun e w' => e = .returned (.tuple #[.string ⟨#[]⟩, .int .i64 0, .int .i64 60]) ∧ Below w.heap.size w w' := by
  have HR := Lib.hid (find_bad h hz)
  clear h hz
  generalize bs l = s at *
  go_enter Try.func23, Try.ntmps23
  go_wp2_with fail
  refine (HR.out _ _).mono ?_
  rintro e w1 ⟨rfl, hb⟩
  go_wp2
  go_ret3
  exact ⟨rfl, hb⟩

set_option maxRecDepth 100000 in
set_option maxHeartbeats 400000 in
theorem repl_noid {cs : List Nat} (h : Txt cs) (hz : (flat cs).length ≤ 1099511627776) {nm : List UInt8} (hn : identB nm = false) (hz2 : nm.length ≤ 1099511627776) (b : ByteArray) (w : World) :
    Calls Try.prog 23 #[.string (bs (flat cs)), .string (bs nm), .string b] w fun e w' => e = .returned (.tuple #[.string ⟨#[]⟩, .int .i64 0, .int .i64 61]) ∧ Below w.heap.size w w' := by
  have HR := Lib.hid (find_noid h hz hn hz2)
  clear h hz hn hz2
  generalize bs (flat cs) = s at *
  go_enter Try.func23, Try.ntmps23
  go_wp2_with fail
  refine (HR.out _).mono ?_
  rintro e w1 ⟨rfl, hb⟩
  go_wp2
  go_ret3
  exact ⟨rfl, hb⟩

set_option maxRecDepth 100000 in
set_option maxHeartbeats 400000 in
theorem repl_noby {cs : List Nat} (h : Txt cs) (hz : (flat cs).length ≤ 1099511627776) {nm : List UInt8} (hn : identB nm = true) (hz2 : nm.length ≤ 1099511627776) {by' : List UInt8} (hb : identB by' = false) (hz3 : by'.length ≤ 1099511627776) (w : World) :
    Calls Try.prog 23 #[.string (bs (flat cs)), .string (bs nm), .string (bs by')] w fun e w' => e = .returned (.tuple #[.string ⟨#[]⟩, .int .i64 0, .int .i64 61]) ∧ Below w.heap.size w w' := by
  have HR := Lib.hid (find_good h hz hn hz2)
  have hid := ident_any by' (by omega)
  rw [hb] at hid
  have HI := Lib.hid hid
  clear h hz hn hz2 hid hb
  generalize bs (flat cs) = s at *
  go_enter Try.func23, Try.ntmps23
  go_wp2_with fail
  refine (HR.out _).mono ?_
  rintro e w1 ⟨A, c, B, d, rfl, hr1, hr2, hb⟩
  clear hr1 hr2 HR
  go_wp2_with fail
  refine (HI.out _).mono ?_
  rintro e w2 ⟨rfl, hb2⟩
  go_wp2
  go_ret3
  exact ⟨rfl, chain hb hb2⟩

/-- The runes of a text, as the model makes them. -/
theorem runesFrom_ok {l r : List UInt8} {cs : List Nat} (h : Reads l cs r) (hr : r = []) : ∀ (n k : Nat), k ≤ cs.length → cs.length - k ≤ n → ∀ acc : Array Value,
    Conv.runesFrom (bs l) n (flat (cs.take k)).length acc = acc ++ (rns (cs.drop k)).toArray := by
  intro n
  induction n with
  | zero =>
    intro k hk hn acc
    obtain rfl : k = cs.length := by omega
    simp [Conv.runesFrom, rns]
  | succ n ih =>
    intro k hk hn acc
    unfold Conv.runesFrom
    by_cases hlt : k < cs.length
    · have hp := (h.at hlt).2
      rw [if_pos (by rw [bs_size]; exact hp), h.dec hlt]
      simp only []
      have e : (flat (cs.take k)).length + (enc cs[k]).length = (flat (cs.take (k + 1))).length := by rw [flat_take cs k hlt, List.length_append]
      rw [e, ih (k + 1) (by omega) (by omega)]
      have e2 : rns (cs.drop k) = Value.int .i32 ((cs[k] : Nat) : Int) :: rns (cs.drop (k + 1)) := by rw [List.drop_eq_getElem_cons hlt]; rfl
      rw [e2]
      simp
    · obtain rfl : k = cs.length := by omega
      rw [List.take_length, if_neg (by rw [bs_size, h.split, hr, List.append_nil]; omega)]
      simp [rns]
theorem runes_of {cs : List Nat} (h : Txt cs) (hz : (flat cs).length ≤ 1099511627776) (w : World) :
    ∃ cap w', (convert 9 49 (.string (bs (flat cs)))).run Try.prog w = .ok (.slice (some ⟨w.heap.size, 0, none⟩) cs.length cap) w' ∧ Rd w' (some ⟨w.heap.size, 0, none⟩) (rns cs) ∧ cs.length ≤ cap ∧ Below w.heap.size w w' := by
  have hrf : Conv.runesFrom (bs (flat cs)) (bs (flat cs)).size 0 #[] = (rns cs).toArray := by
    have := runesFrom_ok (reads_flat h) rfl (bs (flat cs)).size 0 (by omega) (by rw [bs_size]; have := flat_len_le (cs := cs); omega) #[]
    simpa [flat] using this
  have hcl : cs.length ≤ 1099511627776 := Nat.le_trans flat_len_le hz
  have hrs : (rns cs).toArray.size = cs.length := by simp [rns]
  have hrun := run_runes_of_string (P := Try.prog) w 9 49 21 (bs (flat cs)) Try.underlying9 Try.underlying49 Try.underlying21 (by rw [hrf, hrs]; omega)
  rw [hrf, hrs] at hrun
  refine ⟨_, _, hrun, ?_, ?_, ?_⟩
  · refine .inr ⟨w.heap.size, 0, rfl, by simp, fun j hj => ?_⟩
    rw [Nat.zero_add]
    rw [show (w.drew.alloc (.cells ((rns cs).toArray ++ Array.replicate (grownCap w cs.length 0 21 - cs.length) (Value.int .i32 0)) 21)).cell? ⟨w.heap.size, j, none⟩ = ((rns cs).toArray ++ Array.replicate (grownCap w cs.length 0 21 - cs.length) (Value.int .i32 0))[j]? from World.cell?_alloc_mark w.drew _ _ _ j]
    rw [Array.getElem?_append_left (by simpa using hj)]
    simp [List.getElem?_eq_getElem hj]
  · exact grownCap_ge w cs.length 0 21
  · exact (Below.refl _ _).drew.alloc (Nat.le_refl _) _

theorem sub_some (a : Addr) (c f : Nat) : ∃ ad, sub (some a) c f = some ad := by
  unfold sub; split
  · exact ⟨_, rfl⟩
  · exact ⟨_, rfl⟩
theorem rd_cells {w : World} {ad : Addr} {xs : List Value} (h : Rd w (some ad) xs) : ∀ j u, xs[j]? = some u → w.cell? (ad.add j) = some u := by
  intro j u hu
  obtain ⟨hj, rfl⟩ := List.getElem?_eq_some_iff.1 hu
  obtain ⟨b, off, e, hb, hc⟩ := h.get hj
  cases e
  rw [add_none, hc]
theorem rns_one (cs : List Nat) : ∀ u ∈ rns cs, u.oneCell' = true := by
  intro u hu
  obtain ⟨c, _, rfl⟩ := List.mem_map.1 hu
  rfl
theorem rns_append (a b : List Nat) : rns (a ++ b) = rns a ++ rns b := by simp [rns]

end Go.Proofs.Ytpdghmecodlhhaa.P6
