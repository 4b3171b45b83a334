/-
  Layer 6: the stage's theorem, names replaced and put back.
-/
import Derived.Test.YtpdghmecodlhhaaP6r
namespace Go.Proofs.Ytpdghmecodlhhaa.P6
open Go.RowKit Go.PlainAid M6
set_option linter.unusedVariables false

/-- A call of Find that answers n places, and no error. -/
def GivesPlaces (s nm : ByteArray) (n : Nat) : Prop :=
  ∀ w, Calls Try.prog 19 #[.string s, .string nm] w fun e w' => ∃ A c B d, e = .returned (.tuple #[.slice A n c, .slice B n d, .int .i64 0]) ∧ Below w.heap.size w w'
def GivesRepl (s nm b t : ByteArray) (n x : Int) : Prop := Gives 23 #[.string s, .string nm, .string b] (.tuple #[.string t, .int .i64 n, .int .i64 x])
theorem places_of {cs : List Nat} (h : Txt cs) (hz : (flat cs).length ≤ 1048576) {nm : List UInt8} (hn : identB nm = true) (hz2 : nm.length ≤ 1048576) : GivesPlaces (bs (flat cs)) (bs nm) (found (nums nm) cs).length := fun w =>
  (find_good h (by omega) hn (by omega) w).mono fun e w' ⟨A, c, B, d, he, _, _, hw⟩ => ⟨A, c, B, d, he, hw⟩
theorem swapped_back {nm bc cs : List Nat} (hb : ∀ c ∈ bc, partN c = true) (h : cnt bc (cutT cs) = 0) : swapped bc nm (swapped nm bc cs) = cs := by
  conv => lhs; unfold swapped
  rw [show glue (mapT (sw nm bc) (cutT cs)) = swapped nm bc cs from rfl, cut_swapped hb, map_back h, glue_cut]
theorem swapped_len (nm bc cs : List Nat) : (swapped nm bc cs).length ≤ cs.length + bc.length * (found nm cs).length := by
  have := repl_len cs bc (found nm cs) 0 (found_chain nm cs)
  rw [found_repl] at this
  omega

/-- Where all are what they should be. -/
def NamesFine (s nm b : ByteArray) : Prop := ∃ (t v : ByteArray) (n c : Nat), n ≤ 1048576 ∧ c ≤ 1048576 ∧ GivesRepl s nm b t n 0 ∧ GivesPlaces s nm n ∧ GivesRepl s nm nm s n 0 ∧
  (nm ≠ b → GivesPlaces t nm 0 ∧ GivesPlaces s b c ∧ GivesPlaces t b (n + c) ∧ GivesRepl t b nm v ((n : Int) + (c : Int)) 0 ∧ (c = 0 → v = s))
def NamesBad (s nm b : ByteArray) : Prop := ∃ (x y : Int) (n : Nat), x ≠ 0 ∧ GivesRepl s nm b ⟨#[]⟩ 0 x ∧
  ∀ w, Calls Try.prog 19 #[.string s, .string nm] w fun e w' => ∃ A c B d, e = .returned (.tuple #[.slice A n c, .slice B n d, .int .i64 y]) ∧ Below w.heap.size w w'
theorem names_ways (l nm b : List UInt8) (hz : l.length ≤ 2000) (hn : nm.length ≤ 100) (hb : b.length ≤ 100) : NamesBad (bs l) (bs nm) (bs b) ∨ NamesFine (bs l) (bs nm) (bs b) := by
  obtain ⟨ps, y, _, hp, _⟩ := find_both l nm (by omega) (by omega)
  have hfind : ∀ w, Calls Try.prog 19 #[.string (bs l), .string (bs nm)] w fun e w' => ∃ A c B d, e = .returned (.tuple #[.slice A ps.length c, .slice B ps.length d, .int .i64 y]) ∧ Below w.heap.size w w' := fun w =>
    (hp w).mono fun e w' ⟨A, c, B, d, he, _, _, hw⟩ => ⟨A, c, B, d, he, hw⟩
  rcases txt_or l with hbad | ⟨cs, rfl, ht⟩
  · exact .inl ⟨60, y, ps.length, by omega, fun w => repl_bad hbad (by omega) _ _ w, hfind⟩
  · cases hi : identB nm with
    | false => exact .inl ⟨61, y, ps.length, by omega, fun w => repl_noid ht (by omega) hi (by omega) _ w, hfind⟩
    | true =>
      cases hj : identB b with
      | false => exact .inl ⟨61, y, ps.length, by omega, fun w => repl_noby ht (by omega) hi (by omega) hj (by omega) w, hfind⟩
      | true =>
        have hne1 : nums nm ≠ [] := by have := identB_ne hi; unfold nums; simpa using this
        have hne2 : nums b ≠ [] := by have := identB_ne hj; unfold nums; simpa using this
        have hcl : cs.length ≤ 2000 := Nat.le_trans flat_len_le hz
        have hf1 := found_le hne1 cs
        have hf2 := found_le hne2 cs
        have hT : Txt (swapped (nums nm) (nums b) cs) := swapped_ok ht (nums_parts (identB_parts hj))
        have hTl := swapped_len (nums nm) (nums b) cs
        have hmul : (nums b).length * (found (nums nm) cs).length ≤ 100 * 2000 := Nat.mul_le_mul (by rw [nums_len]; exact hb) (by omega)
        have hTz : (flat (swapped (nums nm) (nums b) cs)).length ≤ 1048576 := by have := flat_len_ge (cs := swapped (nums nm) (nums b) cs); omega
        have hself := fun w => repl_good ht (by omega) hi (by omega) hi (by omega) w
        rw [swapped_self] at hself
        refine .inr ⟨bs (flat (swapped (nums nm) (nums b) cs)), bs (flat (swapped (nums b) (nums nm) (swapped (nums nm) (nums b) cs))), (found (nums nm) cs).length, (found (nums b) cs).length, by omega, by omega,
          fun w => repl_good ht (by omega) hi (by omega) hj (by omega) w, places_of ht (by omega) hi (by omega), hself, ?_⟩
        intro hne
        have hnn : nums nm ≠ nums b := fun e => hne (by rw [nums_inj e])
        obtain ⟨q1, q2⟩ := cnt_map hnn (cutT cs)
        have hcut := cut_swapped (nm := nums nm) (nums_parts (identB_parts hj)) cs
        have e1 : (found (nums nm) (swapped (nums nm) (nums b) cs)).length = 0 := by rw [found_len, hcut]; exact q1
        have e2 : (found (nums b) (swapped (nums nm) (nums b) cs)).length = (found (nums nm) cs).length + (found (nums b) cs).length := by rw [found_len, found_len, found_len, hcut]; exact q2
        have g1 := places_of hT hTz hi (by omega)
        have g2 := places_of hT hTz hj (by omega)
        have g3 := fun w => repl_good hT hTz hj (by omega) hi (by omega) w
        rw [e1] at g1
        rw [e2] at g2 g3
        refine ⟨g1, places_of ht (by omega) hj (by omega), g2, ?_, ?_⟩
        · intro w
          have := g3 w
          rw [Int.natCast_add] at this
          exact this
        · intro hc
          rw [found_len] at hc
          rw [swapped_back (nums_parts (identB_parts hj)) hc]

set_option maxRecDepth 100000 in
set_option maxHeartbeats 400000 in
theorem lawNames_bad (w : World) (s nm b : ByteArray) (hb : NamesBad s nm b) (h : s.size ≤ 2000) (h2 : nm.size ≤ 100) (h3 : b.size ≤ 100) :
    Calls Try.prog 8 #[.string s, .string nm, .string b] w fun e w' => e = .returned (.bool true) ∧ Below w.heap.size w w' := by
  obtain ⟨x, y, n, hx, h4, h5⟩ := hb
  have HR := Lib.hid h4
  have HF := Lib.hid h5
  have hx0 : (x != (0 : Int)) = true := by rw [bne_iff_ne]; exact hx
  clear h4 h5 hx
  go_enter Try.func8, Try.ntmps8
  go_wp2_with fail
  refine (awake_any _).mono ?_
  rintro e w1 ⟨rfl, hb1⟩
  go_wp2_with fail
  refine (HR.out _).mono ?_
  rintro e w2 ⟨rfl, hb2⟩
  have hb := chain hb1 hb2
  clear hb1 hb2
  go_wp2_with fail
  refine (HF.out _).mono ?_
  rintro e w3 ⟨A, c, B, d, rfl, hb3⟩
  go_wp2
  go_ret
  exact ⟨by simp, chain hb hb3⟩

set_option maxRecDepth 100000 in
set_option maxHeartbeats 1000000 in
theorem lawNames_same (w : World) (s nm : ByteArray) (hf : NamesFine s nm nm) (h : s.size ≤ 2000) (h2 : nm.size ≤ 100) :
    Calls Try.prog 8 #[.string s, .string nm, .string nm] w fun e w' => e = .returned (.bool true) ∧ Below w.heap.size w w' := by
  obtain ⟨t, v, n, c, hn, hc, k1, k2, k3, _⟩ := hf
  have H1 := Lib.hid k1
  have H2 := Lib.hid k2
  have H3 := Lib.hid k3
  clear k1 k2 k3
  go_enter Try.func8, Try.ntmps8
  go_wp2_with fail
  refine (awake_any _).mono ?_
  rintro e w1 ⟨rfl, hb1⟩
  go_wp2_with fail
  refine (H1.out _).mono ?_
  rintro e w2 ⟨rfl, hb2⟩
  have hb := chain hb1 hb2
  clear hb1 hb2
  go_wp2_with fail
  refine (H2.out _).mono ?_
  rintro e w3 ⟨A, c1, B, d1, rfl, hb3⟩
  have hb := chain hb hb3
  clear hb3
  go_wp2_with fail
  refine (H3.out _).mono ?_
  rintro e w4 ⟨rfl, hb3⟩
  have hb := chain hb hb3
  clear hb3
  go_wp2
  go_ret
  exact ⟨rfl, hb⟩

set_option maxRecDepth 100000 in
set_option maxHeartbeats 2000000 in
theorem lawNames_other (w : World) (s nm b : ByteArray) (hf : NamesFine s nm b) (hne : nm ≠ b) (h : s.size ≤ 2000) (h2 : nm.size ≤ 100) (h3 : b.size ≤ 100) :
    Calls Try.prog 8 #[.string s, .string nm, .string b] w fun e w' => e = .returned (.bool true) ∧ Below w.heap.size w w' := by
  obtain ⟨t, v, n, c, hn, hc, k1, k2, k3, k4⟩ := hf
  obtain ⟨k5, k6, k7, k8, k9⟩ := k4 hne
  have H1 := Lib.hid k1
  have H2 := Lib.hid k2
  have H3 := Lib.hid k3
  have H5 := Lib.hid k5
  have H6 := Lib.hid k6
  have H7 := Lib.hid k7
  have H8 := Lib.hid k8
  have H9 := Lib.hid k9
  have heq : (nm.toList == b.toList) = false := by
    cases he : (nm.toList == b.toList)
    · rfl
    · exact absurd (bs_ext (by rw [ByteArray.toList_eq, ByteArray.toList_eq] at he; simpa using he)) hne
  clear k1 k2 k3 k4 k5 k6 k7 k8 k9 hne
  go_enter Try.func8, Try.ntmps8
  go_wp2_with fail
  refine (awake_any _).mono ?_
  rintro e w1 ⟨rfl, hb1⟩
  go_wp2_with fail
  refine (H1.out _).mono ?_
  rintro e w2 ⟨rfl, hb2⟩
  have hb := chain hb1 hb2
  clear hb1 hb2
  go_wp2_with fail
  refine (H2.out _).mono ?_
  rintro e w3 ⟨A, c1, B, d1, rfl, hb3⟩
  have hb := chain hb hb3
  clear hb3
  go_wp2_with fail
  refine (H3.out _).mono ?_
  rintro e w4 ⟨rfl, hb3⟩
  have hb := chain hb hb3
  clear hb3
  go_wp2_with fail
  refine (H5.out _).mono ?_
  rintro e w5 ⟨A5, c5, B5, d5, rfl, hb3⟩
  have hb := chain hb hb3
  clear hb3
  go_wp2_with fail
  refine (H6.out _).mono ?_
  rintro e w6 ⟨A6, c6, B6, d6, rfl, hb3⟩
  have hb := chain hb hb3
  clear hb3
  go_wp2_with fail
  refine (H7.out _).mono ?_
  rintro e w7 ⟨A7, c7, B7, d7, rfl, hb3⟩
  have hb := chain hb hb3
  clear hb3
  go_wp2_with fail
  refine (H8.out _).mono ?_
  rintro e w8 ⟨rfl, hb3⟩
  have hb := chain hb hb3
  clear hb3
  by_cases hc0 : c = 0
  · have hv := H9.out hc0
    subst hc0 hv
    clear H1 H2 H3 H5 H6 H7 H8 H9
    go_wp2
    go_ret
    exact ⟨by simp, hb⟩
  · have hpos : 0 < c := by omega
    clear hc0 H1 H2 H3 H5 H6 H7 H8 H9
    go_wp2
    all_goals go_ret
    all_goals exact ⟨by simp, hb⟩

set_option maxRecDepth 100000 in
set_option maxHeartbeats 400000 in
theorem lawNames_out (w : World) (s n b : ByteArray) (h : 2000 < s.size ∨ (s.size ≤ 2000 ∧ 100 < n.size) ∨ (s.size ≤ 2000 ∧ n.size ≤ 100 ∧ 100 < b.size)) (hz : s.size ≤ 140737488351232) (hz2 : n.size ≤ 140737488351232) (hz3 : b.size ≤ 140737488351232) :
    Calls Try.prog 8 #[.string s, .string n, .string b] w fun e w' => e = .returned (.bool true) ∧ Below w.heap.size w w' := by
  rcases h with h1 | ⟨h0, h1⟩ | ⟨h0, h2, h1⟩
  all_goals
    go_enter Try.func8, Try.ntmps8
    go_wp2_with fail
    refine (awake_any _).mono ?_
    rintro e w5 ⟨rfl, hb2⟩
    go_wp2
    go_ret
    exact ⟨rfl, hb2⟩
theorem lawNames (w : World) (s : ByteArray) (hz : s.size ≤ 140737488351232) (n : ByteArray) (hz2 : n.size ≤ 140737488351232) (b : ByteArray) (hz3 : b.size ≤ 140737488351232) :
    Calls Try.prog 8 #[.string s, .string n, .string b] w fun e w' => e = .returned (.bool true) ∧ Below w.heap.size w w' := by
  by_cases h : s.size ≤ 2000 ∧ n.size ≤ 100 ∧ b.size ≤ 100
  · obtain ⟨l, rfl, _⟩ := as_bs s
    obtain ⟨k, rfl, _⟩ := as_bs n
    obtain ⟨j, rfl, _⟩ := as_bs b
    rcases names_ways l k j (by have := h.1; rw [bs_size] at this; exact this) (by have := h.2.1; rw [bs_size] at this; exact this) (by have := h.2.2; rw [bs_size] at this; exact this) with hb | hf
    · exact lawNames_bad w _ _ _ hb h.1 h.2.1 h.2.2
    · by_cases hne : bs k = bs j
      · rw [← hne] at hf ⊢
        exact lawNames_same w _ _ hf h.1 h.2.1
      · exact lawNames_other w _ _ _ hf hne h.1 h.2.1 h.2.2
  · exact lawNames_out w s n b (by omega) hz hz2 hz3

end Go.Proofs.Ytpdghmecodlhhaa.P6
