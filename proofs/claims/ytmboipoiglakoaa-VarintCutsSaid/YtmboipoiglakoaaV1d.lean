/-
  Layer 1, walks: numbers with signs, texts with their length ahead.
-/
import Derived.Test.YtmboipoiglakoaaV1c
import Derived.Lib.AppendStr
namespace Go.Proofs.Ytmboipoiglakoaa.V1
open Go.RowKit Go.PlainAid

theorem take_shape (l : List UInt8) : (∃ n r, take l = (n, r, 0) ∧ n ≤ 9223372036854775807 ∧ r.length ≤ l.length) ∨ (∃ e : Int, take l = (0, [], e) ∧ (e = 10 ∨ e = 11)) := by
  have hr := tk_rest l 0 0
  rcases tk_cases l 0 0 with h | ⟨h1, h2, h3⟩
  · exact .inl ⟨(take l).1, (take l).2.1, by rw [← h]; rfl, take_lt l, hr⟩
  · refine .inr ⟨(take l).2.2, ?_, h3⟩
    have e1 : (take l).1 = 0 := h1
    have e2 : (take l).2.1 = [] := h2
    rw [show take l = ((take l).1, (take l).2.1, (take l).2.2) by rfl, e1, e2]

theorem take_as {s : ByteArray} {n : Nat} {r : List UInt8} {e : Int} (h : take s.data.toList = (n, r, e)) (hs : s.size ≤ 9223372036854775807) (w : World) :
    Calls Try.prog 12 #[.string s] w fun x w' => x = .returned (.tuple #[.int .i64 (n : Int), .string (bs r), .int .i64 e]) ∧ Below w.heap.size w w' := by
  have := take_any s hs w
  rw [h] at this
  exact this
theorem refTake_as {s : ByteArray} {n : Nat} {r : List UInt8} {e : Int} (h : take s.data.toList = (n, r, e)) (hs : s.size ≤ 9223372036854775807) (w : World) :
    Calls Try.prog 13 #[.string s] w fun x w' => x = .returned (.tuple #[.int .i64 (n : Int), .string (bs r), .int .i64 e]) ∧ Below w.heap.size w w' := by
  have := refTake_any s hs w
  rw [h] at this
  exact this

/-- A3's answers. -/
def intR (n : Int) : List UInt8 × Int := if n < -4611686018427387904 ∨ 4611686018427387903 < n then ([], 1) else (natB (zig n), 0)
def takeInt (s : List UInt8) : Int × List UInt8 × Int := (zag (take s).1, (take s).2.1, (take s).2.2)

set_option maxRecDepth 100000 in
set_option maxHeartbeats 400000 in
theorem int_any (n : Int) (h1 : -9223372036854775808 ≤ n) (h2 : n ≤ 9223372036854775807) (w : World) :
    Calls Try.prog 15 #[.int .i64 n] w fun e w' => e = .returned (.tuple #[.string (bs (intR n).1), .int .i64 (intR n).2]) ∧ Below w.heap.size w w' := by
  by_cases ho : n < -4611686018427387904 ∨ 4611686018427387903 < n
  · have hfin : intR n = ([], 1) := by unfold intR; rw [if_pos ho]
    have HF := Lib.hid hfin
    clear hfin
    rcases ho with ho | ho
    all_goals
      go_enter Try.func15, Try.ntmps15
      go_wp2
      all_goals
        go_ret2
        exact ⟨by rw [HF.out]; rfl, Below.refl _ _⟩
  · have hfin : intR n = (natB (zig n), 0) := by unfold intR; rw [if_neg ho]
    have l1 : ¬ n < -4611686018427387904 := by omega
    have l2 : ¬ 4611686018427387903 < n := by omega
    clear ho
    by_cases hneg : n < 0
    · have hf2 : natR (-2 * n - 1) = (intR n) := by
        rw [hfin]; unfold natR zig; rw [if_neg (by omega), if_pos hneg]
      have HF := Lib.hid hf2
      clear hf2 hfin
      go_enter Try.func15, Try.ntmps15
      go_wp2_with fail
      refine (nat_any _ (by omega) _).mono ?_
      rintro e w1 ⟨rfl, hb⟩
      go_wp2
      go_ret2
      refine ⟨?_, hb⟩
      rw [← HF.out]
      rw [show -2 * n - 1 = 2 * (-n - 1) + 1 from by omega]
      rfl
    · have hf2 : natR (2 * n) = (intR n) := by
        rw [hfin]; unfold natR zig; rw [if_neg (by omega), if_neg hneg]
      have HF := Lib.hid hf2
      clear hf2 hfin
      go_enter Try.func15, Try.ntmps15
      go_wp2_with fail
      refine (nat_any _ (by omega) _).mono ?_
      rintro e w1 ⟨rfl, hb⟩
      go_wp2
      go_ret2
      exact ⟨by rw [← HF.out]; rfl, hb⟩

set_option maxRecDepth 100000 in
set_option maxHeartbeats 400000 in
theorem refInt_any (n : Int) (h1 : -9223372036854775808 ≤ n) (h2 : n ≤ 9223372036854775807) (w : World) :
    Calls Try.prog 16 #[.int .i64 n] w fun e w' => e = .returned (.tuple #[.string (bs (intR n).1), .int .i64 (intR n).2]) ∧ Below w.heap.size w w' := by
  by_cases ho : n < -4611686018427387904 ∨ 4611686018427387903 < n
  · have hfin : intR n = ([], 1) := by unfold intR; rw [if_pos ho]
    have HF := Lib.hid hfin
    clear hfin
    rcases ho with ho | ho
    all_goals
      go_enter Try.func16, Try.ntmps16
      go_wp2
      all_goals
        go_ret2
        exact ⟨by rw [HF.out]; rfl, Below.refl _ _⟩
  · have hfin : intR n = (natB (zig n), 0) := by unfold intR; rw [if_neg ho]
    have l1 : ¬ n < -4611686018427387904 := by omega
    have l2 : ¬ 4611686018427387903 < n := by omega
    clear ho
    by_cases hneg : n < 0
    · have hf2 : natR (-2 * n - 1) = (intR n) := by
        rw [hfin]; unfold natR zig; rw [if_neg (by omega), if_pos hneg]
      have HF := Lib.hid hf2
      clear hf2 hfin
      go_enter Try.func16, Try.ntmps16
      go_wp2_with fail
      rw [show wrap64 (wrap64 (-2 * n) - 1) = -2 * n - 1 by simp only [wrap64]; omega]
      refine (refNat_any _ (by omega) _).mono ?_
      rintro e w1 ⟨rfl, hb⟩
      go_wp2
      go_ret2
      refine ⟨?_, hb⟩
      rw [← HF.out]
      rfl
    · have hf2 : natR (2 * n) = (intR n) := by
        rw [hfin]; unfold natR zig; rw [if_neg (by omega), if_neg hneg]
      have HF := Lib.hid hf2
      clear hf2 hfin
      go_enter Try.func16, Try.ntmps16
      go_wp2_with fail
      refine (refNat_any _ (by omega) _).mono ?_
      rintro e w1 ⟨rfl, hb⟩
      go_wp2
      go_ret2
      exact ⟨by rw [← HF.out]; rfl, hb⟩

set_option maxRecDepth 100000 in
set_option maxHeartbeats 400000 in
theorem takeInt_any (s : ByteArray) (hs : s.size ≤ 9223372036854775807) (w : World) :
    Calls Try.prog 17 #[.string s] w fun e w' => e = .returned (.tuple #[.int .i64 (takeInt s.data.toList).1, .string (bs (takeInt s.data.toList).2.1), .int .i64 (takeInt s.data.toList).2.2]) ∧ Below w.heap.size w w' := by
  rcases take_shape s.data.toList with ⟨n, r, ht, hn, _⟩ | ⟨er, ht, her⟩
  · have HT := Lib.hid ht
    clear ht
    by_cases hodd : n % 2 = 1
    · have hfin : takeInt s.data.toList = (-((n : Int) / 2) - 1, r, 0) := by
        unfold takeInt zag; rw [HT.out]; simp only [if_pos hodd]; simp
      have HF := Lib.hid hfin
      have hb1 : ((n : Int) % 2 == 1) = true := by simp; omega
      clear hfin hodd
      go_enter Try.func17, Try.ntmps17
      go_wp2_with fail
      refine (take_as HT.out hs _).mono ?_
      rintro e w1 ⟨rfl, hb⟩
      go_wp2
      go_ret3
      exact ⟨by rw [HF.out]; rfl, hb⟩
    · have hfin : takeInt s.data.toList = ((n : Int) / 2, r, 0) := by
        unfold takeInt zag; rw [HT.out]; simp only [if_neg hodd]; simp
      have HF := Lib.hid hfin
      have hb1 : ((n : Int) % 2 == 1) = false := by simp; omega
      clear hfin hodd
      go_enter Try.func17, Try.ntmps17
      go_wp2_with fail
      refine (take_as HT.out hs _).mono ?_
      rintro e w1 ⟨rfl, hb⟩
      go_wp2
      go_ret3
      exact ⟨by rw [HF.out]; rfl, hb⟩
  · have hfin : takeInt s.data.toList = (0, [], er) := by
      unfold takeInt zag; rw [ht]; simp
    have HF := Lib.hid hfin
    have HT := Lib.hid ht
    have hne : (er != 0) = true := by rw [bne_iff_ne]; omega
    clear hfin ht her
    go_enter Try.func17, Try.ntmps17
    go_wp2_with fail
    refine (take_as HT.out hs _).mono ?_
    rintro e w1 ⟨rfl, hb⟩
    go_wp2
    go_ret3
    exact ⟨by rw [HF.out]; rfl, hb⟩

set_option maxRecDepth 100000 in
set_option maxHeartbeats 400000 in
theorem refTakeInt_any (s : ByteArray) (hs : s.size ≤ 9223372036854775807) (w : World) :
    Calls Try.prog 18 #[.string s] w fun e w' => e = .returned (.tuple #[.int .i64 (takeInt s.data.toList).1, .string (bs (takeInt s.data.toList).2.1), .int .i64 (takeInt s.data.toList).2.2]) ∧ Below w.heap.size w w' := by
  rcases take_shape s.data.toList with ⟨n, r, ht, hn, _⟩ | ⟨er, ht, her⟩
  · have HT := Lib.hid ht
    clear ht
    by_cases hodd : n % 2 = 1
    · have hfin : takeInt s.data.toList = (-((n : Int) / 2) - 1, r, 0) := by
        unfold takeInt zag; rw [HT.out]; simp only [if_pos hodd]; simp
      have HF := Lib.hid hfin
      have hb1 : ((n : Int) % 2 == 1) = true := by simp; omega
      clear hfin hodd
      go_enter Try.func18, Try.ntmps18
      go_wp2_with fail
      refine (refTake_as HT.out hs _).mono ?_
      rintro e w1 ⟨rfl, hb⟩
      go_wp2
      go_ret3
      exact ⟨by rw [HF.out]; rfl, hb⟩
    · have hfin : takeInt s.data.toList = ((n : Int) / 2, r, 0) := by
        unfold takeInt zag; rw [HT.out]; simp only [if_neg hodd]; simp
      have HF := Lib.hid hfin
      have hb1 : ((n : Int) % 2 == 1) = false := by simp; omega
      clear hfin hodd
      go_enter Try.func18, Try.ntmps18
      go_wp2_with fail
      refine (refTake_as HT.out hs _).mono ?_
      rintro e w1 ⟨rfl, hb⟩
      go_wp2
      go_ret3
      exact ⟨by rw [HF.out]; rfl, hb⟩
  · have hfin : takeInt s.data.toList = (0, [], er) := by
      unfold takeInt zag; rw [ht]; simp
    have HF := Lib.hid hfin
    have HT := Lib.hid ht
    have hne : (er != 0) = true := by rw [bne_iff_ne]; omega
    clear hfin ht her
    go_enter Try.func18, Try.ntmps18
    go_wp2_with fail
    refine (refTake_as HT.out hs _).mono ?_
    rintro e w1 ⟨rfl, hb⟩
    go_wp2
    go_ret3
    exact ⟨by rw [HF.out]; rfl, hb⟩

theorem ret3s {a a' b b' : ByteArray} {c c' : Int} (h1 : a = a') (h2 : b = b') (h3 : c = c') :
    Ending.returned (.tuple #[.string a, .string b, .int .i64 c]) = Ending.returned (.tuple #[.string a', .string b', .int .i64 c']) := by rw [h1, h2, h3]
theorem ext_pre (r : List UInt8) (n : Nat) : (bs r).extract 0 n = bs (r.take n) := by
  apply bs_ext
  rw [ext_list, bs_list, bs_list]
  simp

set_option maxRecDepth 100000 in
set_option maxHeartbeats 400000 in
theorem takeBytes_any (s : ByteArray) (hs : s.size ≤ 9223372036854775807) (w : World) :
    Calls Try.prog 19 #[.string s] w fun e w' => e = .returned (.tuple #[.string (bs (takeBytes s.data.toList).1), .string (bs (takeBytes s.data.toList).2.1), .int .i64 (takeBytes s.data.toList).2.2]) ∧ Below w.heap.size w w' := by
  rcases take_shape s.data.toList with ⟨n, r, ht, hn, hr⟩ | ⟨er, ht, her⟩
  · have HT := Lib.hid ht
    clear ht
    have hsr : (bs r).size ≤ 9223372036854775807 := by
      have e1 : s.data.toList.length = s.size := rfl
      rw [bs_size]; omega
    by_cases hlt : (bs r).size < n
    · have hfin : takeBytes s.data.toList = ([], [], 10) := by
        unfold takeBytes; rw [HT.out]; rw [bs_size] at hlt; simp [hlt]
      have HF := Lib.hid hfin
      clear hfin
      go_enter Try.func19, Try.ntmps19
      go_wp2_with fail
      refine (take_as HT.out hs _).mono ?_
      rintro e w1 ⟨rfl, hb⟩
      go_wp2
      go_ret3
      exact ⟨by rw [HF.out]; rfl, hb⟩
    · have hfin : takeBytes s.data.toList = (r.take n, r.drop n, 0) := by
        unfold takeBytes; rw [HT.out]; rw [bs_size] at hlt; simp [hlt]
      have HF := Lib.hid hfin
      have hle : n ≤ (bs r).size := by omega
      clear hfin
      go_enter Try.func19, Try.ntmps19
      go_wp2_with fail
      refine (take_as HT.out hs _).mono ?_
      rintro e w1 ⟨rfl, hb⟩
      go_wp2
      go_quiet (fail)
      go_wp2
      go_ret3
      refine ⟨?_, below_drewN hb nq⟩
      rw [HF.out]
      exact ret3s (ext_pre r n) (ext_end (bs r) n) rfl
  · have hfin : takeBytes s.data.toList = ([], [], er) := by
      unfold takeBytes; rw [ht]; rw [if_pos (by simp; omega)]
    have HF := Lib.hid hfin
    have HT := Lib.hid ht
    have hne : (er != 0) = true := by rw [bne_iff_ne]; omega
    clear hfin ht her
    go_enter Try.func19, Try.ntmps19
    go_wp2_with fail
    refine (take_as HT.out hs _).mono ?_
    rintro e w1 ⟨rfl, hb⟩
    go_wp2
    go_ret3
    exact ⟨by rw [HF.out]; rfl, hb⟩

set_option maxRecDepth 100000 in
set_option maxHeartbeats 400000 in
theorem refTakeBytes_any (s : ByteArray) (hs : s.size ≤ 9223372036854775807) (w : World) :
    Calls Try.prog 20 #[.string s] w fun e w' => e = .returned (.tuple #[.string (bs (takeBytes s.data.toList).1), .string (bs (takeBytes s.data.toList).2.1), .int .i64 (takeBytes s.data.toList).2.2]) ∧ Below w.heap.size w w' := by
  rcases take_shape s.data.toList with ⟨n, r, ht, hn, hr⟩ | ⟨er, ht, her⟩
  · have HT := Lib.hid ht
    clear ht
    have hsr : (bs r).size ≤ 9223372036854775807 := by
      have e1 : s.data.toList.length = s.size := rfl
      rw [bs_size]; omega
    by_cases hlt : (bs r).size < n
    · have hfin : takeBytes s.data.toList = ([], [], 10) := by
        unfold takeBytes; rw [HT.out]; rw [bs_size] at hlt; simp [hlt]
      have HF := Lib.hid hfin
      clear hfin
      go_enter Try.func20, Try.ntmps20
      go_wp2_with fail
      refine (refTake_as HT.out hs _).mono ?_
      rintro e w1 ⟨rfl, hb⟩
      go_wp2
      go_ret3
      exact ⟨by rw [HF.out]; rfl, hb⟩
    · have hfin : takeBytes s.data.toList = (r.take n, r.drop n, 0) := by
        unfold takeBytes; rw [HT.out]; rw [bs_size] at hlt; simp [hlt]
      have HF := Lib.hid hfin
      have hle : n ≤ (bs r).size := by omega
      clear hfin
      go_enter Try.func20, Try.ntmps20
      go_wp2_with fail
      refine (refTake_as HT.out hs _).mono ?_
      rintro e w1 ⟨rfl, hb⟩
      go_wp2
      go_quiet (fail)
      go_wp2
      go_ret3
      refine ⟨?_, below_drewN hb nq⟩
      rw [HF.out]
      exact ret3s (ext_pre r n) (ext_end (bs r) n) rfl
  · have hfin : takeBytes s.data.toList = ([], [], er) := by
      unfold takeBytes; rw [ht]; rw [if_pos (by simp; omega)]
    have HF := Lib.hid hfin
    have HT := Lib.hid ht
    have hne : (er != 0) = true := by rw [bne_iff_ne]; omega
    clear hfin ht her
    go_enter Try.func20, Try.ntmps20
    go_wp2_with fail
    refine (refTake_as HT.out hs _).mono ?_
    rintro e w1 ⟨rfl, hb⟩
    go_wp2
    go_ret3
    exact ⟨by rw [HF.out]; rfl, hb⟩

theorem natR_len (s : ByteArray) : natR (s.size : Int) = (natB s.size, 0) := by
  unfold natR; rw [if_neg (by omega)]; simp

set_option maxRecDepth 100000 in
set_option maxHeartbeats 400000 in
theorem bytes_any (s : ByteArray) (hs : s.size ≤ 140737488351232) (w : World) :
    Calls Try.prog 21 #[.string s] w fun e w' => e = .returned (.string (bs (bytesB s.data.toList))) ∧ Below w.heap.size w w' := by
  obtain ⟨i0, hi0, hz0, hz1, hz2⟩ := info_parts info_u8
  have hl9 := natB_len9 (n := s.size) (by omega)
  go_enter Try.func21, Try.ntmps21
  go_wp2_with fail
  refine (appendNat_any w.heap.size _ 0 [] s.size _ (World.ownsRow_nil _ _ _ _) (Nat.le_refl _) (by omega) (by omega)).mono ?_
  rintro e w1 ⟨v1, rfl, ho, hb⟩
  rw [List.nil_append, Nat.zero_add] at ho
  go_wp2_with (at_builtin; refine Lib.wpList_append_own_string _ rfl (.tmp 5) (.tmp 6) 42 9 rfl w.heap.size 5 i0 Try.underlying42 Try.underlying9 hi0 hz0 hz1 hz2 _ _ _ rfl ho s rfl ?c3 ?c4 ?c5 ?_)
  case c3 => unfold maxLen; omega
  case c4 => omega
  case c5 => exact hb.size
  intro v2 w2 hown2 hg2 _
  have ho2 : w2.ownsRow w.heap.size 5 1 v2 ((natB s.size).length + s.size) (u8s (bytesB s.data.toList)) := by
    unfold bytesB
    rw [u8s_append]
    exact hown2
  have hcv := own_string ho2
  go_wp2
  go_ret
  exact ⟨rfl, hb.grown hg2 hb.size (fun q hq => (ho.lt q hq).1)⟩

theorem bs_append (a : List UInt8) (s : ByteArray) : bs a ++ s = bs (a ++ s.data.toList) := by
  apply bs_ext
  rw [bs_list]
  simp [bs]

set_option maxRecDepth 100000 in
set_option maxHeartbeats 400000 in
theorem refBytes_any (s : ByteArray) (hs : s.size ≤ 140737488351232) (w : World) :
    Calls Try.prog 22 #[.string s] w fun e w' => e = .returned (.string (bs (bytesB s.data.toList))) ∧ Below w.heap.size w w' := by
  have hl9 : (bs (natB s.size)).size ≤ 9 := natB_len9 (n := s.size) (by omega)
  have HN := Lib.hid (natR_len s)
  go_enter Try.func22, Try.ntmps22
  go_wp2_with fail
  refine (refNat_any _ (by omega) _).mono ?_
  rw [HN.out]
  rintro e w1 ⟨rfl, hb⟩
  go_wp2
  go_ret
  refine ⟨?_, hb⟩
  show Ending.returned (.string (bs (natB s.size) ++ s)) = _
  rw [bs_append]
  rfl

end Go.Proofs.Ytmboipoiglakoaa.V1
