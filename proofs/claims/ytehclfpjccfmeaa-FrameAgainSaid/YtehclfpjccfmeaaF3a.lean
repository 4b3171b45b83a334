/-
  Layer 3, walks: one text in a frame, one frame taken.
-/
import Derived.Test.YtehclfpjccfmeaaM3
import Derived.JoinedCond
import Derived.Deep.RegionHeld
namespace Go.Proofs.Ytehclfpjccfmeaa.F3
open Go.RowKit Go.PlainAid V1 C2 M2 M3
set_option linter.unusedVariables false

/-- A table, or a row that is none. -/
def tb (odd : Bool) : List Nat := if odd then tab.take 255 else tab
theorem tb_len (odd : Bool) : (tb odd).length = if odd then 255 else 256 := by cases odd <;> simp [tb, tab_len]
theorem tb_lt (odd : Bool) : ∀ x ∈ tb odd, x < 4294967296 := by
  cases odd
  · exact tab_lt
  · intro x hx
    exact tab_lt x (List.mem_of_mem_take (by simpa [tb] using hx))

theorem sum_odd {A : Option Addr} {n c : Nat} {t : List Nat} (s : ByteArray) {w : World} (hr : Rd w A (u32s t)) (hl : t.length = n) (h256 : n ≠ 256) (ht : ∀ x ∈ t, x < 4294967296) (hs : s.size ≤ 9223372036854775807) :
    Calls Try.prog 20 #[.slice A n c, .string s] w fun y w' => y = .returned (.tuple #[.int .u32 0, .int .i64 1]) ∧ w = w' :=
  sum_as (x := 0) (e := 1) (by unfold sumR; rw [if_pos (by omega)]) hr hl ht hs
theorem refSum_odd {A : Option Addr} {n c : Nat} {t : List Nat} (s : ByteArray) {w : World} (hr : Rd w A (u32s t)) (hl : t.length = n) (h256 : n ≠ 256) (ht : ∀ x ∈ t, x < 4294967296) (hs : s.size ≤ 9223372036854775807) :
    Calls Try.prog 23 #[.slice A n c, .string s] w fun y w' => y = .returned (.tuple #[.int .u32 0, .int .i64 1]) ∧ w = w' :=
  refSum_as (x := 0) (e := 1) (by unfold sumR; rw [if_pos (by omega)]) hr hl ht hs
theorem refSum_tab {A : Option Addr} {c : Nat} (s : ByteArray) {w : World} (hr : Rd w A (u32s tab)) (hs : s.size ≤ 9223372036854775807) :
    Calls Try.prog 23 #[.slice A 256 c, .string s] w fun y w' => y = .returned (.tuple #[.int .u32 (crc s.data.toList : Int), .int .i64 0]) ∧ w = w' :=
  refSum_as (sumR_tab _) hr tab_len tab_lt hs

set_option maxRecDepth 100000 in
set_option maxHeartbeats 400000 in
theorem terr_tab (A : Option Addr) (c : Nat) (w : World) (hr : Rd w A (u32s tab)) :
    Calls Try.prog 26 #[.slice A 256 c] w fun e w' => e = .returned (.int .i64 0) ∧ w = w' := by
  have HR := Lib.hid hr
  clear hr
  go_enter Try.func26, Try.ntmps26
  go_wp2_with fail
  refine (sum_tab _ HR.out (by decide)).mono ?_
  rintro e w1 ⟨rfl, rfl⟩
  go_wp2
  go_ret
  exact ⟨rfl, rfl⟩

set_option maxRecDepth 100000 in
set_option maxHeartbeats 400000 in
theorem terr_odd (A : Option Addr) (n c : Nat) (t : List Nat) (w : World) (hr : Rd w A (u32s t)) (hl : t.length = n) (h256 : n ≠ 256) (ht : ∀ x ∈ t, x < 4294967296) :
    Calls Try.prog 26 #[.slice A n c] w fun e w' => e = .returned (.int .i64 1) ∧ w = w' := by
  have HR := Lib.hid hr
  have HL := Lib.hid hl
  have HT := Lib.hid ht
  clear hr hl ht
  go_enter Try.func26, Try.ntmps26
  go_wp2_with fail
  refine (sum_odd _ HR.out HL.out h256 HT.out (by decide)).mono ?_
  rintro e w1 ⟨rfl, rfl⟩
  go_wp2
  go_ret
  exact ⟨rfl, rfl⟩

/-- C1's answers. -/
def ofR (odd : Bool) (s : List UInt8) : List UInt8 × Int := if 1048576 < s.length then ([], 2) else if odd then ([], 1) else (frm s, 0)


set_option maxRecDepth 100000 in
set_option maxHeartbeats 400000 in
theorem of_tab (A : Option Addr) (c : Nat) (s : ByteArray) (w : World) (hr : Rd w A (u32s tab)) (hs : s.size ≤ 1048576) :
    Calls Try.prog 10 #[.slice A 256 c, .string s] w fun e w' => e = .returned (.tuple #[.string (bs (frm s.data.toList)), .int .i64 0]) ∧ Below w.heap.size w w' := by
  have hl : s.data.toList.length = s.size := rfl
  have h1 : (bs (bytesB s.data.toList)).size ≤ 1048585 := by
    have := natB_len9 (n := s.data.toList.length) (by omega)
    rw [bs_size]; unfold bytesB; rw [List.length_append]; omega
  have h2 : (bs (sumB (crc s.data.toList))).size = 4 := rfl
  have HC := Lib.hid (crc_lt s.data.toList)
  have HR := Lib.hid hr
  clear hr hl
  generalize hcr : crc s.data.toList = k at HC h2
  have HK := Lib.hid hcr
  clear hcr
  go_enter Try.func10, Try.ntmps10
  go_wp2_with fail
  refine (sum_tab s HR.out (by omega)).mono ?_
  rw [HK.out]
  rintro e w1 ⟨rfl, rfl⟩
  go_wp2_with fail
  refine (V1.bytes_any s (by omega) _).mono ?_
  rintro e w1 ⟨rfl, hb1⟩
  go_wp2_with fail
  refine (C2.bytes_any k HC.out _).mono ?_
  rintro e w2 ⟨rfl, hb2⟩
  go_wp2
  go_ret2
  refine ⟨?_, hb1.trans (hb2.mono hb1.size)⟩
  rw [bs_join]
  unfold frm
  rw [HK.out]
  rfl

set_option maxRecDepth 100000 in
set_option maxHeartbeats 400000 in
theorem of_odd (A : Option Addr) (n c : Nat) (t : List Nat) (s : ByteArray) (w : World) (hr : Rd w A (u32s t)) (hl : t.length = n) (h256 : n ≠ 256) (ht : ∀ x ∈ t, x < 4294967296) (hs : s.size ≤ 1048576) :
    Calls Try.prog 10 #[.slice A n c, .string s] w fun e w' => e = .returned (.tuple #[.string (bs []), .int .i64 1]) ∧ w = w' := by
  have HR := Lib.hid hr
  have HL := Lib.hid hl
  have HT := Lib.hid ht
  clear hr hl ht
  go_enter Try.func10, Try.ntmps10
  go_wp2_with fail
  refine (sum_odd s HR.out HL.out h256 HT.out (by omega)).mono ?_
  rintro e w1 ⟨rfl, rfl⟩
  go_wp2
  go_ret2
  exact ⟨rfl, rfl⟩

set_option maxRecDepth 100000 in
set_option maxHeartbeats 400000 in
theorem of_long (A : Option Addr) (n c : Nat) (s : ByteArray) (w : World) (hs : 1048576 < s.size) (hs2 : s.size ≤ 9223372036854775807) :
    Calls Try.prog 10 #[.slice A n c, .string s] w fun e w' => e = .returned (.tuple #[.string (bs []), .int .i64 2]) ∧ w = w' := by
  go_enter Try.func10, Try.ntmps10
  go_wp2
  go_ret2
  exact ⟨rfl, rfl⟩

set_option maxRecDepth 100000 in
set_option maxHeartbeats 400000 in
theorem refOf_tab (A : Option Addr) (c : Nat) (s : ByteArray) (w : World) (hr : Rd w A (u32s tab)) (hs : s.size ≤ 1048576) :
    Calls Try.prog 11 #[.slice A 256 c, .string s] w fun e w' => e = .returned (.tuple #[.string (bs (frm s.data.toList)), .int .i64 0]) ∧ Below w.heap.size w w' := by
  have hl : s.data.toList.length = s.size := rfl
  have h1 : (bs (bytesB s.data.toList)).size ≤ 1048585 := by
    have := natB_len9 (n := s.data.toList.length) (by omega)
    rw [bs_size]; unfold bytesB; rw [List.length_append]; omega
  have h2 : (bs (sumB (crc s.data.toList))).size = 4 := rfl
  have HC := Lib.hid (crc_lt s.data.toList)
  have HR := Lib.hid hr
  clear hr hl
  generalize hcr : crc s.data.toList = k at HC h2
  have HK := Lib.hid hcr
  clear hcr
  go_enter Try.func11, Try.ntmps11
  go_wp2_with fail
  refine (refSum_tab s HR.out (by omega)).mono ?_
  rw [HK.out]
  rintro e w1 ⟨rfl, rfl⟩
  go_wp2_with fail
  refine (V1.refBytes_any s (by omega) _).mono ?_
  rintro e w1 ⟨rfl, hb1⟩
  go_wp2_with fail
  refine (C2.refBytes_any k HC.out _).mono ?_
  rintro e w2 ⟨rfl, hb2⟩
  go_wp2
  go_ret2
  refine ⟨?_, hb1.trans (hb2.mono hb1.size)⟩
  rw [bs_join]
  unfold frm
  rw [HK.out]
  rfl

set_option maxRecDepth 100000 in
set_option maxHeartbeats 400000 in
theorem refOf_odd (A : Option Addr) (n c : Nat) (t : List Nat) (s : ByteArray) (w : World) (hr : Rd w A (u32s t)) (hl : t.length = n) (h256 : n ≠ 256) (ht : ∀ x ∈ t, x < 4294967296) (hs : s.size ≤ 1048576) :
    Calls Try.prog 11 #[.slice A n c, .string s] w fun e w' => e = .returned (.tuple #[.string (bs []), .int .i64 1]) ∧ w = w' := by
  have HR := Lib.hid hr
  have HL := Lib.hid hl
  have HT := Lib.hid ht
  clear hr hl ht
  go_enter Try.func11, Try.ntmps11
  go_wp2_with fail
  refine (refSum_odd s HR.out HL.out h256 HT.out (by omega)).mono ?_
  rintro e w1 ⟨rfl, rfl⟩
  go_wp2
  go_ret2
  exact ⟨rfl, rfl⟩

set_option maxRecDepth 100000 in
set_option maxHeartbeats 400000 in
theorem refOf_long (A : Option Addr) (n c : Nat) (s : ByteArray) (w : World) (hs : 1048576 < s.size) (hs2 : s.size ≤ 9223372036854775807) :
    Calls Try.prog 11 #[.slice A n c, .string s] w fun e w' => e = .returned (.tuple #[.string (bs []), .int .i64 2]) ∧ w = w' := by
  go_enter Try.func11, Try.ntmps11
  go_wp2
  go_ret2
  exact ⟨rfl, rfl⟩
end Go.Proofs.Ytehclfpjccfmeaa.F3
