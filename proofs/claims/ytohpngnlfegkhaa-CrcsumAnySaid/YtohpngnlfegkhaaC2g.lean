/-
  Layer 2: the stage's theorems: one byte that is another one; three texts.
-/
import Derived.Test.YtohpngnlfegkhaaC2f
namespace Go.Proofs.Ytohpngnlfegkhaa.C2
open Go.RowKit Go.PlainAid M2
set_option linter.unusedVariables false

theorem i64_and4095 (n : Int) : bits .and .i64 n 4095 = n % 4096 := by
  have h127 : (BitVec.ofInt 64 4095).toNat = 2 ^ 12 - 1 := by decide
  have key : (BitVec.ofInt 64 n &&& BitVec.ofInt 64 4095).toNat = (n % ((2 ^ 64 : Nat) : Int)).toNat % 2 ^ 12 := by
    rw [BitVec.toNat_and, BitVec.toNat_ofInt, h127, Nat.and_two_pow_sub_one_eq_mod]
  show IntKind.i64.wrap ((BitVec.ofInt 64 n &&& BitVec.ofInt 64 4095).toNat : Nat) = n % 4096
  rw [key, IntKind.wrap_i64]
  omega

theorem add_run {P : Program} {a b : ByteArray} (h : a.size + b.size ≤ 9223372036854775807) (w : World) : (Op.stringOp .add a b).run P w = .ok (.string (a ++ b)) w :=
  run_string_add_sum w a b (by omega)

theorem fin_inj {a b : Nat} (h : fin a = fin b) : a = b := xor_right_cancel h

/-- The text with another byte at k. -/
theorem crc_one (s : ByteArray) (k : Nat) (hk : k < s.size) (y : UInt8) (hy : y ≠ 0) :
    crc s.data.toList ≠ crc ((s.data.toList.take k ++ [s[k] ^^^ y]) ++ s.data.toList.drop (k + 1)) := by
  intro h
  have h1 : plain 4294967295 s.data.toList = plain 4294967295 ((s.data.toList.take k ++ [s[k] ^^^ y]) ++ s.data.toList.drop (k + 1)) := fin_inj h
  have hs : s.data.toList = s.data.toList.take k ++ s[k] :: s.data.toList.drop (k + 1) := by
    have hd : s.data.toList.drop k = s[k] :: s.data.toList.drop (k + 1) := List.drop_eq_getElem_cons (by simpa using hk)
    rw [← hd, List.take_append_drop]
  rw [List.append_assoc] at h1
  have h2 := plain_one 4294967295 (by omega) (s.data.toList.take k) (s.data.toList.drop (k + 1)) s[k] (s[k] ^^^ y) (by rw [← hs]; exact h1)
  apply hy
  have h3 := congrArg (fun x => s[k] ^^^ x) h2
  simp only [← UInt8.xor_assoc, UInt8.xor_self, UInt8.zero_xor] at h3
  exact h3.symm

set_option maxRecDepth 100000 in
set_option maxHeartbeats 1000000 in
theorem lawOne (w : World) (s : ByteArray) (hz : s.size ≤ 140737488351232) (n : Int) (h1 : -9223372036854775808 ≤ n) (hn : n ≤ 9223372036854775807) (z : Int) (hz0 : 0 ≤ z) (hz1 : z ≤ 255) :
    Calls Try.prog 7 #[.string s, .int .i64 n, .int .u8 z] w fun e w' => e = .returned (.bool true) ∧ Below w.heap.size w w' := by
  by_cases h0 : s.size = 0
  · have hd : ((s.size : Int) == 0) = true := by rw [h0]; rfl
    clear h0
    go_enter Try.func7, Try.ntmps7
    go_wp2_with fail
    refine (awake_any _).mono ?_
    rintro e w1 ⟨rfl, hb1⟩
    go_wp2
    go_ret
    exact ⟨rfl, hb1⟩
  · have hd : ((s.size : Int) == 0) = false := beq_eq_false_iff_ne.2 (by omega)
    have hpos : 0 < s.size := by omega
    clear h0
    by_cases hbig : 2000 < s.size
    · go_enter Try.func7, Try.ntmps7
      go_wp2_with fail
      refine (awake_any _).mono ?_
      rintro e w1 ⟨rfl, hb1⟩
      go_wp2
      go_ret
      exact ⟨rfl, hb1⟩
    · by_cases hzz : z = 0
      · have hd2 : (z == 0) = true := by rw [hzz]; rfl
        clear hzz
        go_enter Try.func7, Try.ntmps7
        go_wp2_with fail
        refine (awake_any _).mono ?_
        rintro e w1 ⟨rfl, hb1⟩
        go_wp2
        go_ret
        exact ⟨rfl, hb1⟩
      · have hd2 : (z == 0) = false := beq_eq_false_iff_ne.2 hzz
        obtain ⟨y, hy⟩ : ∃ y : UInt8, z = (y.toNat : Int) := ⟨UInt8.ofNat z.toNat, by rw [UInt8.toNat_ofNat']; omega⟩
        have hy0 : y ≠ 0 := by
          rintro rfl
          exact hzz (by rw [hy]; rfl)
        obtain ⟨c, e1, hc⟩ : ∃ c : Nat, bits .and .i64 n 4095 = (c : Int) ∧ c ≤ 4095 := by
          rw [i64_and4095]
          exact ⟨(n % 4096).toNat, by omega, by omega⟩
        obtain ⟨k, e2, hk⟩ : ∃ k : Nat, (c : Int) % (s.size : Int) = (k : Int) ∧ k < s.size := ⟨c % s.size, by simp, Nat.mod_lt _ hpos⟩
        obtain ⟨i0, hi0, hq0, hq1, hq2⟩ := info_parts info_u8
        have hx : bits .xor .u8 (s[k].toNat : Int) z = ((s[k] ^^^ y).toNat : Int) := by rw [hy]; exact u8xx _ _
        have hne := crc_one s k hk y hy0
        generalize hX : s[k] ^^^ y = x at hx hne
        generalize hL : (s.data.toList.take k ++ [x]) ++ s.data.toList.drop (k + 1) = l at hne
        have hnq : ((crc s.data.toList : Int) != (crc l : Int)) = true := by
          rw [bne_iff_ne]; intro h; exact hne (by omega)
        have hll : (bs l).size = s.size := by
          rw [bs_size, ← hL]
          have : s.data.toList.length = s.size := rfl
          simp only [List.length_append, List.length_take, List.length_drop, List.length_cons, List.length_nil]
          omega
        have hcat : (s.extract 0 k ++ bs [x]) ++ s.extract (k + 1) s.size = bs l := by
          rw [← hL, ext_end, show s.extract 0 k = bs (s.data.toList.take k) from ext_pre s.data.toList k, bs_join, bs_join]
        have HC := Lib.hid hcat
        have HLL := Lib.hid hll
        clear hzz hy hy0 hX hne hL hll hcat
        go_enter Try.func7, Try.ntmps7
        go_wp2_with fail
        refine (awake_any _).mono ?_
        rintro e w1 ⟨rfl, hb1⟩
        go_wp2_with (at_builtin; refine wpList_append_own _ rfl (.tmp 36) (.tmp 42) 33 rfl w.heap.size 5 i0 (.int .u8 0) 1 1 Try.underlying33 hi0 hq0 hq1 hq2 rfl (by decide) _ 0 [] rfl (World.ownsRow_nil _ _ _ _) ⟨w1.heap.size, 0, none⟩ 1 1 [.int .u8 (x.toNat : Int)] rfl rfl (cell_one_new _ _ _) ?c2 ?c3 ?c4 ?c5 ?_)
        case c2 => simp [Value.oneCell']
        case c3 => unfold maxLen; omega
        case c4 => omega
        case c5 => have := hb1.size; simp; omega
        intro v1 w2 hown1 hg1 _
        have hb2 : Below w.heap.size w w2 := (hb1.alloc hb1.size _).grown hg1 (by have := hb1.size; simp; omega) (fun q hq => by simp [Value.ownBlock] at hq)
        have HO := Lib.hid hown1
        clear hown1 hg1 hb1
        go_wp2_with fail
        refine (table_any _).mono ?_
        rintro e w3 ⟨A, rfl, ha, hb3⟩
        have hb4 : Below w.heap.size w w3 := hb2.trans (hb3.mono hb2.size)
        have HV := Lib.hid (own_keep HO.out hb3)
        have HA := Lib.hid ha
        clear ha hb3 hb2
        go_wp2_with fail
        refine (sum_tab s HA.out (by omega)).mono ?_
        rintro e w4 ⟨rfl, rfl⟩
        have hq : ∀ m, Calls Try.prog 12 #[.slice A 256 256, .string ((s.extract 0 k ++ bs [x]) ++ s.extract (k + 1) s.size)] (w3.drewN m) fun y w' => y = .returned (.tuple #[.int .u32 (crc l : Int), .int .i64 0]) ∧ w' = w3.drewN m := fun m => by
          rw [HC.out]
          exact (sum_tab (bs l) (HA.out.drewN m) (by rw [HLL.out]; omega)).mono fun _ _ ⟨h1, h2⟩ => ⟨h1, h2.symm⟩
        have HQ := Lib.hid hq
        clear hq
        have hcv := fun m => own_string (l := [x]) (own_keep HV.out (below_drewN (Below.refl _ _) m))
        have hke : (s.extract 0 k).size = k := by rw [show (s.extract 0 k).size = (s.extract 0 k).data.toList.length from rfl, ext_list, List.length_take]; have : s.data.toList.length = s.size := rfl; simp; omega
        have hke2 : (s.extract (k + 1) s.size).size = s.size - (k + 1) := by rw [show (s.extract (k + 1) s.size).size = (s.extract (k + 1) s.size).data.toList.length from rfl, ext_list, List.length_take, List.length_drop]; have : s.data.toList.length = s.size := rfl; omega
        have hke3 : (s.extract 0 k ++ bs [x]).size = k + 1 := by rw [ByteArray.size_append, hke, bs_size]; rfl
        have ha1 := fun w => add_run (P := Try.prog) (a := s.extract 0 k) (b := bs [x]) (by rw [hke, bs_size]; simp; omega) w
        have ha2 := fun w => add_run (P := Try.prog) (a := s.extract 0 k ++ bs [x]) (b := s.extract (k + 1) s.size) (by rw [hke2, hke3]; omega) w
        clear hke hke2 hke3
        have hk1 : IntKind.i64.wrap ((k : Int) + 1) = (k : Int) + 1 := IntWalk.i64_in _ (by omega)
        have hk2 : 0 ≤ (k : Int) + 1 := by omega
        have hk3 : ((k : Int) + 1).toNat = k + 1 := by omega
        have hk4 : k ≤ s.size := by omega
        have hk5 : (k : Int) + 1 ≤ (s.size : Int) := by omega
        go_wp2
        go_quiet ((go_at_call 12; exact Calls.quiet_of_same (HQ.out _)))
        go_wp2
        go_ret
        exact ⟨by simp, below_drewN hb4 nq⟩

theorem fin_three (x y z : Nat) : fin (x ^^^ y ^^^ z) = fin x ^^^ fin y ^^^ fin z := by
  unfold fin
  apply Nat.eq_of_testBit_eq; intro i; simp only [Nat.testBit_xor]
  cases x.testBit i <;> cases y.testBit i <;> cases z.testBit i <;> cases (4294967295 : Nat).testBit i <;> rfl

set_option maxRecDepth 100000 in
set_option maxHeartbeats 1000000 in
theorem lawThree (w : World) (a : ByteArray) (ha : a.size ≤ 140737488351232) (b : ByteArray) (hb : b.size ≤ 140737488351232) (c : ByteArray) (hc : c.size ≤ 140737488351232) :
    Calls Try.prog 8 #[.string a, .string b, .string c] w fun e w' => e = .returned (.bool true) ∧ Below w.heap.size w w' := by
  obtain ⟨n, hna, hnb, hnc, hmin⟩ : ∃ n : Nat, n ≤ a.size ∧ n ≤ b.size ∧ n ≤ c.size ∧ ((b.size ≤ c.size ∧ b.size < a.size ∧ b.size = n) ∨ (b.size ≤ c.size ∧ a.size ≤ b.size ∧ a.size = n) ∨ (c.size < b.size ∧ c.size < a.size ∧ c.size = n) ∨ (c.size < b.size ∧ a.size ≤ c.size ∧ a.size = n)) := by
    by_cases h1 : b.size ≤ c.size
    · by_cases h2 : b.size < a.size
      · exact ⟨b.size, by omega, by omega, by omega, .inl ⟨h1, h2, rfl⟩⟩
      · exact ⟨a.size, by omega, by omega, by omega, .inr (.inl ⟨h1, by omega, rfl⟩)⟩
    · by_cases h2 : c.size < a.size
      · exact ⟨c.size, by omega, by omega, by omega, .inr (.inr (.inl ⟨by omega, h2, rfl⟩))⟩
      · exact ⟨a.size, by omega, by omega, by omega, .inr (.inr (.inr ⟨by omega, by omega, rfl⟩))⟩
  have hxa : (a.extract 0 n).data.toList = a.data.toList.take n := by rw [ext_list]; simp
  have hxb : (b.extract 0 n).data.toList = b.data.toList.take n := by rw [ext_list]; simp
  have hxc : (c.extract 0 n).data.toList = c.data.toList.take n := by rw [ext_list]; simp
  have hla : (a.data.toList.take n).length = n := by
    have : a.data.toList.length = a.size := rfl
    rw [List.length_take]; omega
  have hlb : (b.data.toList.take n).length = n := by
    have : b.data.toList.length = b.size := rfl
    rw [List.length_take]; omega
  have hlc : (c.data.toList.take n).length = n := by
    have : c.data.toList.length = c.size := rfl
    rw [List.length_take]; omega
  have hsa : (a.extract 0 n).size = n := by rw [show (a.extract 0 n).size = (a.extract 0 n).data.toList.length from rfl, hxa, hla]
  have hsb : (b.extract 0 n).size = n := by rw [show (b.extract 0 n).size = (b.extract 0 n).data.toList.length from rfl, hxb, hlb]
  have hsc : (c.extract 0 n).size = n := by rw [show (c.extract 0 n).size = (c.extract 0 n).data.toList.length from rfl, hxc, hlc]
  have h3 : crc (tz (tz (a.data.toList.take n) (b.data.toList.take n)) (c.data.toList.take n)) = crc (a.data.toList.take n) ^^^ crc (b.data.toList.take n) ^^^ crc (c.data.toList.take n) := by
    unfold crc
    rw [plain_three _ _ _ _ (by omega) (by omega)]
    exact fin_three _ _ _
  have hx1 := u32x (crc_lt (a.data.toList.take n)) (crc_lt (b.data.toList.take n))
  have hx2 := u32x (xlt (crc_lt (a.data.toList.take n)) (crc_lt (b.data.toList.take n))) (crc_lt (c.data.toList.take n))
  rw [← h3] at hx2
  have hz4 : (tz (a.data.toList.take n) (b.data.toList.take n)).length = n := by rw [tz_len _ _ (by omega)]; exact hla
  have hz5 : (tz (tz (a.data.toList.take n) (b.data.toList.take n)) (c.data.toList.take n)).length = n := by rw [tz_len _ _ (by omega)]; exact hz4
  have HXA := Lib.hid hxa
  have HXB := Lib.hid hxb
  have HXC := Lib.hid hxc
  have HSA := Lib.hid hsa
  have HSB := Lib.hid hsb
  have HSC := Lib.hid hsc
  have HX1 := Lib.hid hx1
  have HX2 := Lib.hid hx2
  have HZ4 := Lib.hid hz4
  have HZ5 := Lib.hid hz5
  clear hxa hxb hxc hla hlb hlc hsa hsb hsc h3 hx1 hx2 hz4 hz5
  by_cases hbig : 2000 < n
  · rcases hmin with ⟨m1, m2, m3⟩ | ⟨m1, m2, m3⟩ | ⟨m1, m2, m3⟩ | ⟨m1, m2, m3⟩
    all_goals
      go_enter Try.func8, Try.ntmps8
      go_wp2_with fail
      refine (awake_any _).mono ?_
      rintro e w1 ⟨rfl, hb1⟩
      go_wp2
      go_ret
      exact ⟨rfl, hb1⟩
  · rcases hmin with ⟨m1, m2, m3⟩ | ⟨m1, m2, m3⟩ | ⟨m1, m2, m3⟩ | ⟨m1, m2, m3⟩
    all_goals
      go_enter Try.func8, Try.ntmps8
      go_wp2_with fail
      refine (awake_any _).mono ?_
      rintro e w1 ⟨rfl, hb1⟩
      go_wp2
      go_quiet (fail)
      have hb2 := below_drewN hb1 nq
      generalize w1.drewN nq = w2 at hb2
      clear m1 m2 m3 hb1
      go_wp2_with fail
      refine (table_any _).mono ?_
      rintro e w3 ⟨A, rfl, hr, hb3⟩
      have hb4 : Below w.heap.size w w3 := hb2.trans (hb3.mono hb2.size)
      have HA := Lib.hid hr
      clear hr hb3 hb2
      go_wp2_with fail
      refine (sum_tab _ HA.out (by rw [HSA.out]; omega)).mono ?_
      rw [HXA.out]
      rintro e w4 ⟨rfl, rfl⟩
      go_wp2_with fail
      refine (sum_tab _ HA.out (by rw [HSB.out]; omega)).mono ?_
      rw [HXB.out]
      rintro e w4 ⟨rfl, rfl⟩
      go_wp2_with fail
      refine (sum_tab _ HA.out (by rw [HSC.out]; omega)).mono ?_
      rw [HXC.out]
      rintro e w4 ⟨rfl, rfl⟩
      go_wp2_with fail
      refine (turned_any _ _ _ (by rw [HSA.out]; omega) (by rw [HSB.out]; omega)).mono ?_
      rw [HXA.out, HXB.out]
      rintro e w5 ⟨rfl, hb5⟩
      have hb6 : Below w.heap.size w w5 := hb4.trans (hb5.mono hb4.size)
      have HA5 := Lib.hid (HA.out.keep hb5)
      clear hb5 hb4
      go_wp2_with fail
      refine (turned_any _ _ _ (by rw [bs_size, HZ4.out]; omega) (by rw [HSC.out]; omega)).mono ?_
      rw [HXC.out, bs_list]
      rintro e w6 ⟨rfl, hb7⟩
      have hb8 : Below w.heap.size w w6 := hb6.trans (hb7.mono hb6.size)
      have HA6 := Lib.hid (HA5.out.keep hb7)
      clear hb7 hb6
      go_wp2_with fail
      refine (sum_tab _ HA6.out (by rw [bs_size, HZ5.out]; omega)).mono ?_
      rw [bs_list]
      rintro e w7 ⟨rfl, rfl⟩
      have hx1 := HX1.out
      have hx2 := HX2.out
      go_wp2
      go_ret
      exact ⟨by simp, hb8⟩

end Go.Proofs.Ytohpngnlfegkhaa.C2
