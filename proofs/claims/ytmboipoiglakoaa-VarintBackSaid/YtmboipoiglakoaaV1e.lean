/-
  Layer 1: what a right program answers (awake), and the laws of numbers and of numbers with signs.
-/
import Derived.Test.YtmboipoiglakoaaV1d
namespace Go.Proofs.Ytmboipoiglakoaa.V1
open Go.RowKit Go.PlainAid

theorem nat_as {n : Int} {l : List UInt8} {x : Int} (h : natR n = (l, x)) (hn : n ≤ 9223372036854775807) (w : World) :
    Calls Try.prog 10 #[.int .i64 n] w fun e w' => e = .returned (.tuple #[.string (bs l), .int .i64 x]) ∧ Below w.heap.size w w' := by
  have := nat_any n hn w
  rw [h] at this
  exact this

set_option maxRecDepth 100000 in
set_option maxHeartbeats 400000 in
theorem awake_any (w : World) : Calls Try.prog 14 #[] w fun e w' => e = .returned (.bool true) ∧ Below w.heap.size w w' := by
  have c1 : ∀ w : World, Calls Try.prog 10 #[.int .i64 300] w fun e w' => e = .returned (.tuple #[.string ⟨#[172, 2]⟩, .int .i64 0]) ∧ Below w.heap.size w w' := fun w =>
    nat_as (n := 300) (l := [172, 2]) (x := 0) (by decide +kernel) (by omega) w
  have c2 : ∀ w : World, Calls Try.prog 12 #[.string ⟨#[128, 0]⟩] w fun e w' => e = .returned (.tuple #[.int .i64 0, .string ⟨#[]⟩, .int .i64 11]) ∧ Below w.heap.size w w' := fun w =>
    take_as (s := ⟨#[128, 0]⟩) (n := 0) (r := []) (e := 11) (by decide +kernel) (by decide) w
  have c3 : ∀ w : World, Calls Try.prog 21 #[.string ⟨#[97, 98]⟩] w fun e w' => e = .returned (.string ⟨#[2, 97, 98]⟩) ∧ Below w.heap.size w w' := fun w => by
    have := bytes_any ⟨#[97, 98]⟩ (by decide) w
    rw [show bs (bytesB (ByteArray.mk #[97, 98]).data.toList) = ⟨#[2, 97, 98]⟩ by decide +kernel] at this
    exact this
  have C1 := Lib.hid c1
  have C2 := Lib.hid c2
  have C3 := Lib.hid c3
  clear c1 c2 c3
  go_enter Try.func14, Try.ntmps14
  go_wp2_with fail
  refine (C1.out _).mono ?_
  rintro e w1 ⟨rfl, hb1⟩
  go_wp2_with fail
  refine (C2.out _).mono ?_
  rintro e w2 ⟨rfl, hb2⟩
  go_wp2_with fail
  refine (C3.out _).mono ?_
  rintro e w3 ⟨rfl, hb3⟩
  go_wp2
  go_ret
  exact ⟨by simp, (hb1.trans (hb2.mono hb1.size)).trans (hb3.mono (Nat.le_trans hb1.size hb2.size))⟩

set_option maxRecDepth 100000 in
set_option maxHeartbeats 400000 in
theorem lawNats (w : World) (n : Int) (_ : -9223372036854775808 ≤ n) (hn : n ≤ 9223372036854775807) (s : ByteArray) (hz : s.size ≤ 140737488351232) :
    Calls Try.prog 3 #[.int .i64 n, .string s] w fun e w' => e = .returned (.bool true) ∧ Below w.heap.size w w' := by
  have hs : s.size ≤ 9223372036854775807 := by omega
  go_enter Try.func3, Try.ntmps3
  go_wp2_with fail
  refine (nat_any n hn _).mono ?_
  rintro e w1 ⟨rfl, hb1⟩
  go_wp2_with fail
  refine (refNat_any n hn _).mono ?_
  rintro e w2 ⟨rfl, hb2⟩
  go_wp2_with fail
  refine (take_any s hs _).mono ?_
  rintro e w3 ⟨rfl, hb3⟩
  go_wp2_with fail
  refine (refTake_any s hs _).mono ?_
  rintro e w4 ⟨rfl, hb4⟩
  go_wp2_with fail
  refine (awake_any _).mono ?_
  rintro e w5 ⟨rfl, hb5⟩
  have s1 := hb1.size
  have s2 := hb2.size
  have s3 := hb3.size
  have s4 := hb4.size
  go_wp2
  go_ret
  exact ⟨by simp, (((hb1.trans (hb2.mono (by omega))).trans (hb3.mono (by omega))).trans (hb4.mono (by omega))).trans (hb5.mono (by omega))⟩

set_option maxRecDepth 100000 in
set_option maxHeartbeats 400000 in
theorem lawInts (w : World) (n : Int) (h1 : -9223372036854775808 ≤ n) (hn : n ≤ 9223372036854775807) (s : ByteArray) (hz : s.size ≤ 140737488351232) :
    Calls Try.prog 4 #[.int .i64 n, .string s] w fun e w' => e = .returned (.bool true) ∧ Below w.heap.size w w' := by
  have hs : s.size ≤ 9223372036854775807 := by omega
  go_enter Try.func4, Try.ntmps4
  go_wp2_with fail
  refine (int_any n h1 hn _).mono ?_
  rintro e w1 ⟨rfl, hb1⟩
  go_wp2_with fail
  refine (refInt_any n h1 hn _).mono ?_
  rintro e w2 ⟨rfl, hb2⟩
  go_wp2_with fail
  refine (takeInt_any s hs _).mono ?_
  rintro e w3 ⟨rfl, hb3⟩
  go_wp2_with fail
  refine (refTakeInt_any s hs _).mono ?_
  rintro e w4 ⟨rfl, hb4⟩
  go_wp2_with fail
  refine (awake_any _).mono ?_
  rintro e w5 ⟨rfl, hb5⟩
  have s1 := hb1.size
  have s2 := hb2.size
  have s3 := hb3.size
  have s4 := hb4.size
  go_wp2
  go_ret
  exact ⟨by simp, (((hb1.trans (hb2.mono (by omega))).trans (hb3.mono (by omega))).trans (hb4.mono (by omega))).trans (hb5.mono (by omega))⟩

set_option maxRecDepth 100000 in
set_option maxHeartbeats 400000 in
theorem lawTexts (w : World) (t : ByteArray) (ht : t.size ≤ 140737488351232) (s : ByteArray) (hz : s.size ≤ 140737488351232) :
    Calls Try.prog 5 #[.string t, .string s] w fun e w' => e = .returned (.bool true) ∧ Below w.heap.size w w' := by
  have hs : s.size ≤ 9223372036854775807 := by omega
  go_enter Try.func5, Try.ntmps5
  go_wp2_with fail
  refine (takeBytes_any s hs _).mono ?_
  rintro e w1 ⟨rfl, hb1⟩
  go_wp2_with fail
  refine (refTakeBytes_any s hs _).mono ?_
  rintro e w2 ⟨rfl, hb2⟩
  go_wp2_with fail
  refine (awake_any _).mono ?_
  rintro e w3 ⟨rfl, hb3⟩
  go_wp2_with fail
  refine (bytes_any t ht _).mono ?_
  rintro e w4 ⟨rfl, hb4⟩
  go_wp2_with fail
  refine (refBytes_any t ht _).mono ?_
  rintro e w5 ⟨rfl, hb5⟩
  have s1 := hb1.size
  have s2 := hb2.size
  have s3 := hb3.size
  have s4 := hb4.size
  go_wp2
  go_ret
  exact ⟨by simp, (((hb1.trans (hb2.mono (by omega))).trans (hb3.mono (by omega))).trans (hb4.mono (by omega))).trans (hb5.mono (by omega))⟩

theorem i64_and1023 (n : Int) : bits .and .i64 n 1023 = n % 1024 := by
  have h127 : (BitVec.ofInt 64 1023).toNat = 2 ^ 10 - 1 := by decide
  have key : (BitVec.ofInt 64 n &&& BitVec.ofInt 64 1023).toNat = (n % ((2 ^ 64 : Nat) : Int)).toNat % 2 ^ 10 := by
    rw [BitVec.toNat_and, BitVec.toNat_ofInt, h127, Nat.and_two_pow_sub_one_eq_mod]
  show IntKind.i64.wrap ((BitVec.ofInt 64 n &&& BitVec.ofInt 64 1023).toNat : Nat) = n % 1024
  rw [key, IntKind.wrap_i64]
  omega
theorem i64_and1048575 (n : Int) : bits .and .i64 n 1048575 = n % 1048576 := by
  have h127 : (BitVec.ofInt 64 1048575).toNat = 2 ^ 20 - 1 := by decide
  have key : (BitVec.ofInt 64 n &&& BitVec.ofInt 64 1048575).toNat = (n % ((2 ^ 64 : Nat) : Int)).toNat % 2 ^ 20 := by
    rw [BitVec.toNat_and, BitVec.toNat_ofInt, h127, Nat.and_two_pow_sub_one_eq_mod]
  show IntKind.i64.wrap ((BitVec.ofInt 64 n &&& BitVec.ofInt 64 1048575).toNat : Nat) = n % 1048576
  rw [key, IntKind.wrap_i64]
  omega

theorem mod_in {c n : Nat} (h : 0 < n) : 0 ≤ (c : Int) % (n : Int) ∧ (c : Int) % (n : Int) ≤ (n : Int) := by
  have := Nat.mod_lt c h
  rw [← Int.natCast_emod]
  omega

theorem takeBytes_as {s : ByteArray} {t r : List UInt8} {e : Int} (h : takeBytes s.data.toList = (t, r, e)) (hs : s.size ≤ 9223372036854775807) (w : World) :
    Calls Try.prog 19 #[.string s] w fun x w' => x = .returned (.tuple #[.string (bs t), .string (bs r), .int .i64 e]) ∧ Below w.heap.size w w' := by
  have := takeBytes_any s hs w
  rw [h] at this
  exact this

set_option maxRecDepth 100000 in
set_option maxHeartbeats 400000 in
theorem lawCuts (w : World) (n : Int) (h1 : -9223372036854775808 ≤ n) (hn : n ≤ 9223372036854775807) (t : ByteArray) (ht : t.size ≤ 140737488351232) (cut : Int) (_ : -9223372036854775808 ≤ cut) (_ : cut ≤ 9223372036854775807) :
    Calls Try.prog 9 #[.int .i64 n, .string t, .int .i64 cut] w fun e w' => e = .returned (.bool true) ∧ Below w.heap.size w w' := by
  obtain ⟨c1, e1, hc1⟩ : ∃ c : Nat, bits .and .i64 cut 1023 = (c : Int) ∧ c ≤ 1023 := by
    rw [i64_and1023]
    exact ⟨(cut % 1024).toNat, by omega, by omega⟩
  obtain ⟨c2, e2, hc2⟩ : ∃ c : Nat, bits .and .i64 cut 1048575 = (c : Int) ∧ c ≤ 1048575 := by
    rw [i64_and1048575]
    exact ⟨(cut % 1048576).toNat, by omega, by omega⟩
  by_cases hneg : n < 0
  · go_enter Try.func9, Try.ntmps9
    go_wp2_with fail
    refine (awake_any _).mono ?_
    rintro e w1 ⟨rfl, hb1⟩
    go_wp2_with fail
    refine (nat_as (l := []) (x := 1) (by unfold natR; rw [if_pos hneg]) hn _).mono ?_
    rintro e w2 ⟨rfl, hb2⟩
    go_wp2
    go_ret
    exact ⟨rfl, hb1.trans (hb2.mono hb1.size)⟩
  · obtain ⟨m, rfl⟩ := Int.eq_ofNat_of_zero_le (show 0 ≤ n by omega)
    have hm : m ≤ 9223372036854775807 := by omega
    have hp := natB_pos m
    rw [← bs_size] at hp
    have hq : (bs (natB m)).size ≤ 9 := natB_len9 hm
    have hr : natR (m : Int) = (natB m, 0) := by unfold natR; rw [if_neg hneg]; simp
    have hcut : take ((bs (natB m)).extract 0 (c1 % (bs (natB m)).size)).data.toList = (0, [], 10) := by
      rw [ext_pre, bs_list]
      exact take_cut m _ hm (Nat.mod_lt _ hp)
    have hcs : ((bs (natB m)).extract 0 (c1 % (bs (natB m)).size)).size ≤ 9223372036854775807 := by
      rw [ext_pre, bs_size, List.length_take]; rw [bs_size] at hq; omega
    have hp2 : 0 < (bs (bytesB t.data.toList)).size := by
      rw [bs_size]; unfold bytesB; have := natB_pos t.data.toList.length; simp only [List.length_append]; omega
    have hq2 : (bs (bytesB t.data.toList)).size ≤ 140737488355328 := by
      rw [bs_size]; unfold bytesB
      have h9 := natB_len9 (n := t.data.toList.length) (by have : t.data.toList.length = t.size := rfl; omega)
      have : t.data.toList.length = t.size := rfl
      simp only [List.length_append]; omega
    have hcut2 : takeBytes ((bs (bytesB t.data.toList)).extract 0 (c2 % (bs (bytesB t.data.toList)).size)).data.toList = ([], [], 10) := by
      rw [ext_pre, bs_list]
      exact takeBytes_cut _ _ (by have : t.data.toList.length = t.size := rfl; omega) (Nat.mod_lt _ hp2)
    have hcs2 : ((bs (bytesB t.data.toList)).extract 0 (c2 % (bs (bytesB t.data.toList)).size)).size ≤ 9223372036854775807 := by
      rw [ext_pre, bs_size, List.length_take]; rw [bs_size] at hq2; omega
    obtain ⟨m1, m2⟩ := mod_in (c := c1) hp
    obtain ⟨m3, m4⟩ := mod_in (c := c2) hp2
    have HR := Lib.hid hr
    have HC := Lib.hid hcut
    have HS := Lib.hid hcs
    have HC2 := Lib.hid hcut2
    have HS2 := Lib.hid hcs2
    clear hr hcut hcs hcut2 hcs2
    go_enter Try.func9, Try.ntmps9
    go_wp2_with fail
    refine (awake_any _).mono ?_
    rintro e w1 ⟨rfl, hb1⟩
    go_wp2_with fail
    refine (nat_as HR.out hn _).mono ?_
    rintro e w2 ⟨rfl, hb2⟩
    go_wp2_with fail
    refine (take_as HC.out HS.out _).mono ?_
    rintro e w3 ⟨rfl, hb3⟩
    go_wp2_with fail
    refine (bytes_any t ht _).mono ?_
    rintro e w4 ⟨rfl, hb4⟩
    go_wp2_with fail
    refine (takeBytes_as HC2.out HS2.out _).mono ?_
    rintro e w5 ⟨rfl, hb5⟩
    have s1 := hb1.size
    have s2 := hb2.size
    have s3 := hb3.size
    have s4 := hb4.size
    go_wp2
    go_ret
    exact ⟨by simp, (((hb1.trans (hb2.mono (by omega))).trans (hb3.mono (by omega))).trans (hb4.mono (by omega))).trans (hb5.mono (by omega))⟩
end Go.Proofs.Ytmboipoiglakoaa.V1
