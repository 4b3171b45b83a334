/-
  Layer 6: the stage's theorem, pieces together are the text, what is put can be cut out again.
-/
import Derived.Test.YtpdghmecodlhhaaP6q
namespace Go.Proofs.Ytpdghmecodlhhaa.P6
open Go.RowKit Go.PlainAid M6
set_option linter.unusedVariables false

theorem putL_len {cs ms : List Nat} {i : Nat} (h : i ≤ cs.length) : (putL cs ms i).length = ms.length + cs.length := by
  unfold putL; simp only [List.length_append, List.length_take, List.length_drop]; omega
theorem putL_txt {cs ms : List Nat} (h : Txt cs) (h2 : Txt ms) (i : Nat) : Txt (putL cs ms i) := by
  intro c hc
  unfold putL at hc
  rcases List.mem_append.1 hc with hc | hc
  · rcases List.mem_append.1 hc with hc | hc
    · exact h c (List.mem_of_mem_take hc)
    · exact h2 c hc
  · exact h c (List.mem_of_mem_drop hc)
theorem putL_flat {cs ms : List Nat} {i : Nat} : (flat (putL cs ms i)).length = (flat ms).length + (flat cs).length := by
  have h : (flat cs).length = (flat (cs.take i)).length + (flat (cs.drop i)).length := by
    conv => lhs; rw [← List.take_append_drop i cs, flat_append, List.length_append]
  unfold putL; rw [flat_append, flat_append, List.length_append, List.length_append]; omega
theorem putL_cut1 {cs ms : List Nat} {i : Nat} (h : i ≤ cs.length) : ((putL cs ms i).drop 0).take (i - 0) = cs.take i := by
  unfold putL
  rw [List.drop_zero, Nat.sub_zero, List.append_assoc]
  have : (cs.take i).length = i := by rw [List.length_take]; omega
  conv => lhs; arg 1; rw [← this]
  rw [List.take_left]
theorem putL_cut2 {cs ms : List Nat} {i : Nat} (h : i ≤ cs.length) : ((putL cs ms i).drop i).take (i + ms.length - i) = ms := by
  unfold putL
  have : (cs.take i).length = i := by rw [List.length_take]; omega
  rw [List.append_assoc]
  conv => lhs; arg 2; arg 1; rw [← this]
  rw [List.drop_left, show i + ms.length - i = ms.length by omega, List.take_left]
theorem putL_cut3 {cs ms : List Nat} {i : Nat} (h : i ≤ cs.length) : ((putL cs ms i).drop (i + ms.length)).take (ms.length + cs.length - (i + ms.length)) = cs.drop i := by
  have e : (cs.take i ++ ms).length = i + ms.length := by rw [List.length_append, List.length_take]; omega
  unfold putL
  rw [← e, List.drop_left, List.take_of_length_le (by rw [List.length_drop, e]; omega)]

/-- What Put answers: all that the law asks. -/
def PutBad (l m : List UInt8) (i : Int) : Prop := ∃ x : Int, x ≠ 0 ∧ Gives 17 #[.string (bs l), .int .i64 i, .string (bs m)] (.tuple #[.string ⟨#[]⟩, .int .i64 x])
def PutFine (l m : List UInt8) (L : Nat) (i : Int) : Prop := ∃ (a n : Nat) (t p1 p2 : ByteArray), i = (a : Int) ∧ n ≤ 1048576 ∧ a ≤ 1048576 ∧ p1.size + p2.size ≤ 1048576 ∧ p1 ++ p2 = bs l ∧
  Gives 17 #[.string (bs l), .int .i64 (a : Int), .string (bs m)] (.tuple #[.string t, .int .i64 0]) ∧
  Gives 12 #[.string (bs m)] (.tuple #[.int .i64 (n : Int), .int .i64 0]) ∧
  Gives 12 #[.string t] (.tuple #[.int .i64 ((n : Int) + (L : Int)), .int .i64 0]) ∧
  Gives 15 #[.string t, .int .i64 0, .int .i64 (a : Int)] (.tuple #[.string p1, .int .i64 0]) ∧
  Gives 15 #[.string t, .int .i64 (a : Int), .int .i64 ((a : Int) + (n : Int))] (.tuple #[.string (bs m), .int .i64 0]) ∧
  Gives 15 #[.string t, .int .i64 ((a : Int) + (n : Int)), .int .i64 ((n : Int) + (L : Int))] (.tuple #[.string p2, .int .i64 0])
theorem put_ways {cs : List Nat} (h : Txt cs) (hz : (flat cs).length ≤ 1048576) (m : List UInt8) (hm : m.length ≤ 1048576) (i : Int) : PutBad (flat cs) m i ∨ PutFine (flat cs) m cs.length i := by
  rcases txt_or m with hb | ⟨ms, rfl, ht2⟩
  · exact .inl ⟨60, by omega, fun w => put_bad2 h (by omega) hb (by omega) i w⟩
  · by_cases ho : i < 0 ∨ (cs.length : Int) < i
    · exact .inl ⟨100, by omega, fun w => put_out h (by omega) ht2 (by omega) ho w⟩
    · obtain ⟨a, rfl⟩ := Int.eq_ofNat_of_zero_le (show 0 ≤ i by omega)
      have ha : a ≤ cs.length := by omega
      have hcl : cs.length ≤ 1048576 := Nat.le_trans flat_len_le hz
      have hml : ms.length ≤ 1048576 := Nat.le_trans flat_len_le hm
      have hT := putL_txt h ht2 a
      have hL := putL_len (ms := ms) ha
      have hF := putL_flat (cs := cs) (ms := ms) (i := a)
      have hs : (flat (cs.take a)).length + (flat (cs.drop a)).length = (flat cs).length := by
        conv => rhs; rw [← List.take_append_drop a cs, flat_append, List.length_append]
      have hc1 : ∀ w, _ := fun w => cut_good hT (by omega) (f := 0) (t := a) (by omega) (by omega) w
      rw [putL_cut1 ha] at hc1
      have hc2 : ∀ w, _ := fun w => cut_good hT (by omega) (f := a) (t := a + ms.length) (by omega) (by omega) w
      rw [putL_cut2 ha] at hc2
      have hc3 : ∀ w, _ := fun w => cut_good hT (by omega) (f := a + ms.length) (t := ms.length + cs.length) (by omega) (by omega) w
      rw [putL_cut3 ha] at hc3
      have hl2 : ∀ w, _ := fun w => len_good hT (by omega) w
      rw [hL] at hl2
      refine .inr ⟨a, ms.length, bs (flat (putL cs ms a)), bs (flat (cs.take a)), bs (flat (cs.drop a)), rfl, hml, by omega, by rw [bs_size, bs_size]; omega, ?_, fun w => put_good h (by omega) ht2 (by omega) ha w, fun w => len_good ht2 (by omega) w, hl2, hc1, hc2, ?_⟩
      · rw [bs_join, ← flat_append, List.take_append_drop]
      · exact hc3

set_option maxRecDepth 100000 in
set_option maxHeartbeats 400000 in
theorem lawWhole_bad (w : World) (l : List UInt8) (i : Int) (m : List UInt8) (hb : Bad l) (h : (bs l).size ≤ 3000) (h2 : (bs m).size ≤ 3000) :
    Calls Try.prog 7 #[.string (bs l), .int .i64 i, .string (bs m)] w fun e w' => e = .returned (.bool true) ∧ Below w.heap.size w w' := by
  have HS := Lib.hid (split_bad hb (by rw [bs_size] at h; omega))
  clear hb
  go_enter Try.func7, Try.ntmps7
  go_wp2_with fail
  refine (awake_any _).mono ?_
  rintro e w1 ⟨rfl, hb1⟩
  go_wp2_with fail
  refine (HS.out _).mono ?_
  rintro e w2 ⟨rfl, hb2⟩
  go_wp2
  go_ret
  exact ⟨rfl, chain hb1 hb2⟩

/-- WHAT THE LOOP KEEPS. -/
def WhoRel (cs : List Nat) (s i : Value) : Prop := ∃ k : Nat, k ≤ cs.length ∧ i = .int .i64 (k : Int) ∧ s = .string (bs (flat (cs.take k)))

set_option maxRecDepth 100000 in
set_option maxHeartbeats 2000000 in
theorem lawWhole_good (w : World) (cs : List Nat) (i : Int) (m : List UInt8) (ht : Txt cs) (h : (bs (flat cs)).size ≤ 3000) (h2 : (bs m).size ≤ 3000) :
    Calls Try.prog 7 #[.string (bs (flat cs)), .int .i64 i, .string (bs m)] w fun e w' => e = .returned (.bool true) ∧ Below w.heap.size w w' := by
  have hz : (flat cs).length ≤ 3000 := h
  have HS := Lib.hid (split_good ht (by omega))
  have HW := Lib.hid (put_ways ht (by omega) m (by rw [bs_size] at h2; omega) i)
  have hcl : cs.length ≤ 3000 := Nat.le_trans flat_len_le hz
  clear ht
  go_enter Try.func7, Try.ntmps7
  go_wp2_with fail
  refine (awake_any _).mono ?_
  rintro e w1 ⟨rfl, hb1⟩
  go_wp2_with fail
  refine (HS.out _).mono ?_
  rintro e w2 ⟨A, c, rfl, hr, hc, hb2⟩
  have HR := Lib.hid hr
  have hb := chain hb1 hb2
  clear hr hb1 hb2 HS
  go_wp2
  go_loop [10, 11] (fun s i => WhoRel cs s i) (fun _ i => cs.length - (intOf i).toNat)
  case atStart => exact ⟨0, by omega, rfl, rfl⟩
  case round =>
    obtain ⟨k, hk, rfl, rfl⟩ := hrel
    by_cases hlt : k < cs.length
    · obtain ⟨b, off, rfl, hbl, hc⟩ := HR.out.get (k := k) (by rw [pcs_len]; exact hlt)
      rw [pcs_get] at hc
      have HF := Lib.hid (flat_take cs k hlt)
      have hle : (flat (cs.take (k + 1))).length ≤ (flat cs).length := by
        conv => rhs; rw [← List.take_append_drop (k + 1) cs, flat_append, List.length_append]
        omega
      have hsz : ¬ 9223372036854775807 < (bs (flat (cs.take k))).size + (bs (enc cs[k])).size := by
        rw [bs_size, bs_size]; rw [HF.out, List.length_append] at hle; omega
      have hem : (bs (enc cs[k])).toList.isEmpty = false := by
        rw [bs_toList]; have := enc_pos cs[k]; cases he : enc cs[k] with
        | nil => rw [he] at this; simp at this
        | cons x y => rfl
      have hd : decide ((k : Int) < (cs.length : Int)) = true := by simp; omega
      generalize cs[k] = ck at *
      go_wp2
      go_round
      case rel => exact ⟨k + 1, by omega, by go_num, by rw [HF.out, bs_join]⟩
      case measure => simp [intOf]; omega
    · obtain rfl : k = cs.length := by omega
      rw [List.take_length]
      have hd : decide (((cs.length : Nat) : Int) < (cs.length : Int)) = false := by simp
      rcases HW.out with ⟨x, hx, hp⟩ | ⟨a, n, t, p1, p2, rfl, hn, ha, hps, hpl, hp, hl1, hl2, hc1, hc2, hc3⟩
      · have hx0 : (x != (0 : Int)) = true := by rw [bne_iff_ne]; exact hx
        have HP := Lib.hid hp
        clear hp hx HW
        go_wp2_with fail
        refine (HP.out _).mono ?_
        rintro e w3 ⟨rfl, hb3⟩
        go_wp2
        go_ret
        exact ⟨by simp, chain hb hb3⟩
      · have HP := Lib.hid hp
        have HL1 := Lib.hid hl1
        have HL2 := Lib.hid hl2
        have HC1 := Lib.hid hc1
        have HC2 := Lib.hid hc2
        have HC3 := Lib.hid hc3
        have hsz : ¬ 9223372036854775807 < p1.size + p2.size := by omega
        have HPL := Lib.hid hpl
        clear hp hl1 hl2 hc1 hc2 hc3 HW hpl
        go_wp2_with fail
        refine (HP.out _).mono ?_
        rintro e w3 ⟨rfl, hb3⟩
        have hb := chain hb hb3
        clear hb3
        go_wp2_with fail
        refine (HL1.out _).mono ?_
        rintro e w4 ⟨rfl, hb3⟩
        have hb := chain hb hb3
        clear hb3
        go_wp2_with fail
        refine (HL2.out _).mono ?_
        rintro e w5 ⟨rfl, hb3⟩
        have hb := chain hb hb3
        clear hb3
        go_wp2_with fail
        refine (HC1.out _).mono ?_
        rintro e w6 ⟨rfl, hb3⟩
        have hb := chain hb hb3
        clear hb3
        go_wp2_with fail
        refine (HC2.out _).mono ?_
        rintro e w7 ⟨rfl, hb3⟩
        have hb := chain hb hb3
        clear hb3
        go_wp2_with fail
        refine (HC3.out _).mono ?_
        rintro e w8 ⟨rfl, hb3⟩
        have hb := chain hb hb3
        have hpl := HPL.out
        have heq : ((p1 ++ p2).toList == (bs (flat cs)).toList) = true := by rw [hpl]; simp
        clear hb3 hpl
        go_wp2
        go_ret
        exact ⟨by simp, hb⟩

set_option maxRecDepth 100000 in
set_option maxHeartbeats 400000 in
theorem lawWhole_out (w : World) (s : ByteArray) (i : Int) (m : ByteArray) (h : 3000 < s.size ∨ (s.size ≤ 3000 ∧ 3000 < m.size)) (hz : s.size ≤ 140737488351232) (hz2 : m.size ≤ 140737488351232) :
    Calls Try.prog 7 #[.string s, .int .i64 i, .string m] w fun e w' => e = .returned (.bool true) ∧ Below w.heap.size w w' := by
  rcases h with h1 | ⟨h0, h1⟩
  all_goals
    go_enter Try.func7, Try.ntmps7
    go_wp2_with fail
    refine (awake_any _).mono ?_
    rintro e w5 ⟨rfl, hb2⟩
    go_wp2
    go_ret
    exact ⟨rfl, hb2⟩
theorem lawWhole (w : World) (s : ByteArray) (hz : s.size ≤ 140737488351232) (i : Int) (f1 : -9223372036854775808 ≤ i) (f2 : i ≤ 9223372036854775807) (m : ByteArray) (hz2 : m.size ≤ 140737488351232) :
    Calls Try.prog 7 #[.string s, .int .i64 i, .string m] w fun e w' => e = .returned (.bool true) ∧ Below w.heap.size w w' := by
  by_cases h : s.size ≤ 3000 ∧ m.size ≤ 3000
  · obtain ⟨l, rfl, _⟩ := as_bs s
    obtain ⟨k, rfl, _⟩ := as_bs m
    rcases txt_or l with hb | ⟨cs, rfl, ht⟩
    · exact lawWhole_bad w l i k hb h.1 h.2
    · exact lawWhole_good w cs i k ht h.1 h.2
  · exact lawWhole_out w s i m (by omega) hz hz2

end Go.Proofs.Ytpdghmecodlhhaa.P6
