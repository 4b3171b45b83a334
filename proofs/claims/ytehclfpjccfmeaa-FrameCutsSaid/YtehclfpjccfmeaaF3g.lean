/-
  Layer 3: the laws.
-/
import Derived.Test.YtehclfpjccfmeaaF3f
namespace Go.Proofs.Ytehclfpjccfmeaa.F3
open Go.RowKit Go.PlainAid V1 C2 M2 M3
set_option linter.unusedVariables false

theorem chain {w a b : World} (h : Below w.heap.size w a) (k : Below a.heap.size a b) : Below w.heap.size w b := h.trans (k.mono h.size)

theorem tb_false (w : World) :
    Calls Try.prog 9 #[.bool false] w fun e w' => ∃ A c, e = .returned (.slice A 256 c) ∧ Rd w' A (u32s tab) ∧ Below w.heap.size w w' := by
  have := tb_any false w
  rw [tb_len] at this
  exact this
theorem tb_true (w : World) :
    Calls Try.prog 9 #[.bool true] w fun e w' => ∃ A c, e = .returned (.slice A 255 c) ∧ Rd w' A (u32s (tb true)) ∧ Below w.heap.size w w' := by
  have := tb_any true w
  rw [tb_len] at this
  exact this

set_option maxRecDepth 100000 in
set_option maxHeartbeats 1000000 in
theorem lawFrames_mid (w : World) (odd : Bool) (s : ByteArray) (h1 : 3000 < s.size) (h2 : s.size ≤ 1048576) :
    Calls Try.prog 3 #[.bool odd, .string s] w fun e w' => e = .returned (.bool true) ∧ Below w.heap.size w w' := by
  go_enter Try.func3, Try.ntmps3
  go_wp2_with fail
  refine (awake_any _).mono ?_
  rintro e w1 ⟨rfl, hb1⟩
  go_wp2
  go_ret
  exact ⟨rfl, hb1⟩

set_option maxRecDepth 100000 in
set_option maxHeartbeats 1000000 in
theorem lawFrames_long (w : World) (odd : Bool) (s : ByteArray) (h2 : 1048576 < s.size) (hz : s.size ≤ 140737488351232) :
    Calls Try.prog 3 #[.bool odd, .string s] w fun e w' => e = .returned (.bool true) ∧ Below w.heap.size w w' := by
  go_enter Try.func3, Try.ntmps3
  go_wp2_with fail
  refine (tb_any odd _).mono ?_
  rintro e w1 ⟨A, c, rfl, hr, hb1⟩
  clear hr
  generalize (tb odd).length = n
  go_wp2_with fail
  refine (of_long A n c s _ h2 (by omega)).mono ?_
  rintro e w2 ⟨rfl, rfl⟩
  go_wp2_with fail
  refine (refOf_long A n c s _ h2 (by omega)).mono ?_
  rintro e w2 ⟨rfl, rfl⟩
  go_wp2_with fail
  refine (awake_any _).mono ?_
  rintro e w2 ⟨rfl, hb2⟩
  go_wp2
  go_ret
  exact ⟨by simp, chain hb1 hb2⟩

set_option maxRecDepth 100000 in
set_option maxHeartbeats 1000000 in
theorem lawFrames_odd (w : World) (s : ByteArray) (h2 : s.size ≤ 3000) :
    Calls Try.prog 3 #[.bool true, .string s] w fun e w' => e = .returned (.bool true) ∧ Below w.heap.size w w' := by
  have hl : (tb true).length = 255 := by rw [tb_len]; rfl
  have hb0 : (bs []).size = 0 := rfl
  have ho1 : ∀ (A : Option Addr) (c : Nat) (w : World) (s : ByteArray), s.size ≤ 1048576 → Rd w A (u32s (tb true)) → _ := fun A c w s hs hr => of_odd A 255 c (tb true) s w hr hl (by omega) (tb_lt true) hs
  have ho2 : ∀ (A : Option Addr) (c : Nat) (w : World) (s : ByteArray), s.size ≤ 1048576 → Rd w A (u32s (tb true)) → _ := fun A c w s hs hr => refOf_odd A 255 c (tb true) s w hr hl (by omega) (tb_lt true) hs
  have hn1 : ∀ (A : Option Addr) (c : Nat) (w : World) (s : ByteArray), Rd w A (u32s (tb true)) → _ := fun A c w s hr => next_odd A 255 c (tb true) s w hr hl (by omega) (tb_lt true)
  have hn2 : ∀ (A : Option Addr) (c : Nat) (w : World) (s : ByteArray), Rd w A (u32s (tb true)) → _ := fun A c w s hr => refNext_odd A 255 c (tb true) s w hr hl (by omega) (tb_lt true)
  have O1 := Lib.hid ho1
  have O2 := Lib.hid ho2
  have N1 := Lib.hid hn1
  have N2 := Lib.hid hn2
  clear ho1 ho2 hn1 hn2 hl
  go_enter Try.func3, Try.ntmps3
  go_wp2_with fail
  refine (tb_true _).mono ?_
  rintro e w1 ⟨A, c, rfl, hr, hb1⟩
  have HR := Lib.hid hr
  clear hr
  go_wp2_with fail
  refine (O1.out A c _ s (by omega) HR.out).mono ?_
  rintro e w2 ⟨rfl, rfl⟩
  go_wp2_with fail
  refine (O2.out A c _ s (by omega) HR.out).mono ?_
  rintro e w2 ⟨rfl, rfl⟩
  go_wp2_with fail
  refine (N1.out A c _ s HR.out).mono ?_
  rintro e w2 ⟨rfl, rfl⟩
  go_wp2_with fail
  refine (N2.out A c _ s HR.out).mono ?_
  rintro e w2 ⟨rfl, rfl⟩
  go_wp2_with fail
  refine (N1.out A c _ _ HR.out).mono ?_
  rintro e w2 ⟨rfl, rfl⟩
  go_wp2_with fail
  refine (N2.out A c _ _ HR.out).mono ?_
  rintro e w2 ⟨rfl, rfl⟩
  go_wp2_with fail
  refine (awake_any _).mono ?_
  rintro e w2 ⟨rfl, hb2⟩
  go_wp2
  go_ret
  exact ⟨by simp, chain hb1 hb2⟩

set_option maxRecDepth 100000 in
set_option maxHeartbeats 1000000 in
theorem lawFrames_tab (w : World) (s : ByteArray) (h2 : s.size ≤ 3000) :
    Calls Try.prog 3 #[.bool false, .string s] w fun e w' => e = .returned (.bool true) ∧ Below w.heap.size w w' := by
  have hl : s.data.toList.length = s.size := rfl
  have hf := frm_le (l := s.data.toList) (by omega)
  have hfs : (bs (frm s.data.toList)).size ≤ 3013 := by rw [bs_size]; omega
  clear hl hf
  generalize hF : frm s.data.toList = f at hfs
  have HF := Lib.hid hF
  clear hF
  go_enter Try.func3, Try.ntmps3
  go_wp2_with fail
  refine (tb_false _).mono ?_
  rintro e w1 ⟨A, c, rfl, hr, hb1⟩
  have HR := Lib.hid hr
  clear hr
  go_wp2_with fail
  refine (of_tab A c s _ HR.out (by omega)).mono ?_
  rw [HF.out]
  rintro e w2 ⟨rfl, hb2⟩
  have HR := Lib.hid (HR.out.keep hb2)
  have hb1 := chain hb1 hb2
  clear hb2
  go_wp2_with fail
  refine (refOf_tab A c s _ HR.out (by omega)).mono ?_
  rw [HF.out]
  rintro e w3 ⟨rfl, hb2⟩
  have HR := Lib.hid (HR.out.keep hb2)
  have hb1 := chain hb1 hb2
  clear hb2
  go_wp2_with fail
  refine (next_any A c s _ HR.out (by omega)).mono ?_
  rintro e w4 ⟨rfl, hb2⟩
  have HR := Lib.hid (HR.out.keep hb2)
  have hb1 := chain hb1 hb2
  clear hb2
  go_wp2_with fail
  refine (refNext_any A c s _ HR.out (by omega)).mono ?_
  rintro e w5 ⟨rfl, hb2⟩
  have HR := Lib.hid (HR.out.keep hb2)
  have hb1 := chain hb1 hb2
  clear hb2
  go_wp2_with fail
  refine (next_any A c (bs f ++ s) _ HR.out (by rw [ByteArray.size_append]; omega)).mono ?_
  rintro e w6 ⟨rfl, hb2⟩
  have HR := Lib.hid (HR.out.keep hb2)
  have hb1 := chain hb1 hb2
  clear hb2
  go_wp2_with fail
  refine (refNext_any A c (bs f ++ s) _ HR.out (by rw [ByteArray.size_append]; omega)).mono ?_
  rintro e w7 ⟨rfl, hb2⟩
  have hb1 := chain hb1 hb2
  clear hb2 HR
  go_wp2_with fail
  refine (awake_any _).mono ?_
  rintro e w8 ⟨rfl, hb2⟩
  go_wp2
  go_ret
  exact ⟨by simp, chain hb1 hb2⟩

theorem lawFrames (w : World) (odd : Bool) (s : ByteArray) (hz : s.size ≤ 140737488351232) :
    Calls Try.prog 3 #[.bool odd, .string s] w fun e w' => e = .returned (.bool true) ∧ Below w.heap.size w w' := by
  by_cases h1 : s.size ≤ 3000
  · cases odd
    · exact lawFrames_tab w s h1
    · exact lawFrames_odd w s h1
  · by_cases h2 : s.size ≤ 1048576
    · exact lawFrames_mid w odd s (by omega) h2
    · exact lawFrames_long w odd s (by omega) hz

set_option maxRecDepth 100000 in
set_option maxHeartbeats 1000000 in
theorem lawSplits_odd (w : World) (s : ByteArray) (h2 : s.size ≤ 3000) :
    Calls Try.prog 4 #[.bool true, .string s] w fun e w' => e = .returned (.bool true) ∧ Below w.heap.size w w' := by
  have hl : (tb true).length = 255 := by rw [tb_len]; rfl
  have hn1 : ∀ (A : Option Addr) (c : Nat) (w : World), Rd w A (u32s (tb true)) → _ := fun A c w hr => split_odd A 255 c (tb true) s w hr hl (by omega) (tb_lt true)
  have hn2 : ∀ (A : Option Addr) (c : Nat) (w : World), Rd w A (u32s (tb true)) → _ := fun A c w hr => refSplit_odd A 255 c (tb true) s w hr hl (by omega) (tb_lt true) (by omega)
  have N1 := Lib.hid hn1
  have N2 := Lib.hid hn2
  clear hn1 hn2 hl
  go_enter Try.func4, Try.ntmps4
  go_wp2_with fail
  refine (tb_true _).mono ?_
  rintro e w1 ⟨A, c, rfl, hr, hb1⟩
  have HR := Lib.hid hr
  clear hr
  go_wp2_with fail
  refine (N1.out A c _ HR.out).mono ?_
  rintro e w2 ⟨rfl, hb2⟩
  have hb1 := chain hb1 hb2
  clear hb2 HR
  go_wp2_with fail
  refine (tb_true _).mono ?_
  rintro e w3 ⟨A, c, rfl, hr, hb2⟩
  have HR := Lib.hid hr
  have hb1 := chain hb1 hb2
  clear hr hb2
  go_wp2_with fail
  refine (N2.out A c _ HR.out).mono ?_
  rintro e w4 ⟨rfl, hb2⟩
  have hb1 := chain hb1 hb2
  clear hb2 HR
  go_wp2_with fail
  refine (awake_any _).mono ?_
  rintro e w5 ⟨rfl, hb2⟩
  have hb1 := chain hb1 hb2
  clear hb2
  go_wp2_with fail
  refine (same_any none none 0 0 0 [] _ (.inl rfl) (.inl rfl) rfl (by omega)).mono ?_
  rintro e w6 ⟨rfl, hb2⟩
  go_wp2
  go_ret
  exact ⟨by simp, chain hb1 hb2⟩

theorem split_count {s : List UInt8} {ls : List (List UInt8)} {r : List UInt8} {x : Int} (h : split s = (ls, r, x)) : s = frms ls ++ r ∧ (x = 0 ↔ r = []) ∧ (∀ l ∈ ls, l.length ≤ 1048576) ∧ 5 * ls.length + r.length ≤ s.length := by
  obtain ⟨h1, h2, h3⟩ := split_again s.length s (Nat.le_refl _)
  rw [h] at h1 h2 h3
  refine ⟨h1, h2, h3, ?_⟩
  have h4 := frms_len ls
  have h5 := congrArg List.length h1
  rw [List.length_append] at h5
  dsimp only at h5
  omega

set_option maxRecDepth 100000 in
set_option maxHeartbeats 1000000 in
theorem lawSplits_tab (w : World) (s : ByteArray) (h2 : s.size ≤ 3000) :
    Calls Try.prog 4 #[.bool false, .string s] w fun e w' => e = .returned (.bool true) ∧ Below w.heap.size w w' := by
  have hl : s.data.toList.length = s.size := rfl
  obtain ⟨ls, r, x, hsp⟩ : ∃ ls r x, split s.data.toList = (ls, r, x) := ⟨_, _, _, rfl⟩
  have hc := (split_count hsp).2.2.2
  rw [hl] at hc
  have HS := Lib.hid hsp
  clear hsp hl
  go_enter Try.func4, Try.ntmps4
  go_wp2_with fail
  refine (tb_false _).mono ?_
  rintro e w1 ⟨A, c, rfl, hr, hb1⟩
  have HR := Lib.hid hr
  clear hr
  go_wp2_with fail
  refine (split_as (by omega) HR.out HS.out).mono ?_
  rintro e w2 ⟨B, d, rfl, hrd, hb2⟩
  have HA := Lib.hid hrd
  have hb1 := chain hb1 hb2
  clear hb2 HR hrd
  go_wp2_with fail
  refine (tb_false _).mono ?_
  rintro e w3 ⟨A, c, rfl, hr, hb2⟩
  have HR := Lib.hid hr
  have HA := Lib.hid (HA.out.keep hb2)
  have hb1 := chain hb1 hb2
  clear hr hb2
  go_wp2_with fail
  refine (refSplit_as (by omega) HR.out HS.out).mono ?_
  rintro e w4 ⟨B', d', rfl, hrd, hb2⟩
  have HB := Lib.hid hrd
  have HA := Lib.hid (HA.out.keep hb2)
  have hb1 := chain hb1 hb2
  clear hb2 HR hrd
  go_wp2_with fail
  refine (awake_any _).mono ?_
  rintro e w5 ⟨rfl, hb2⟩
  have HA := Lib.hid (HA.out.keep hb2)
  have HB := Lib.hid (HB.out.keep hb2)
  have hb1 := chain hb1 hb2
  clear hb2
  go_wp2_with fail
  refine (same_any B B' ls.length d d' ls _ HA.out HB.out rfl (by omega)).mono ?_
  rintro e w6 ⟨rfl, hb2⟩
  go_wp2
  go_ret
  exact ⟨by simp, chain hb1 hb2⟩

set_option maxRecDepth 100000 in
set_option maxHeartbeats 1000000 in
theorem lawSplits (w : World) (odd : Bool) (s : ByteArray) (hz : s.size ≤ 140737488351232) :
    Calls Try.prog 4 #[.bool odd, .string s] w fun e w' => e = .returned (.bool true) ∧ Below w.heap.size w w' := by
  by_cases h1 : s.size ≤ 3000
  · cases odd
    · exact lawSplits_tab w s h1
    · exact lawSplits_odd w s h1
  · go_enter Try.func4, Try.ntmps4
    go_wp2_with fail
    refine (awake_any _).mono ?_
    rintro e w1 ⟨rfl, hb1⟩
    go_wp2
    go_ret
    exact ⟨rfl, hb1⟩

end Go.Proofs.Ytehclfpjccfmeaa.F3
