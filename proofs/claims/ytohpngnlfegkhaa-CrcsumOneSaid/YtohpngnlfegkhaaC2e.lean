/-
  Layer 2: what a right program answers (awake), and the laws.
-/
import Derived.Test.YtohpngnlfegkhaaC2d
namespace Go.Proofs.Ytohpngnlfegkhaa.C2
open Go.RowKit Go.PlainAid M2

theorem sum_as {A : Option Addr} {n c : Nat} {t : List Nat} {s : ByteArray} {w : World} {x : Nat} {e : Int} (h : sumR t s.data.toList = (x, e)) (hr : Rd w A (u32s t)) (hl : t.length = n) (ht : ∀ x ∈ t, x < 4294967296) (hs : s.size ≤ 9223372036854775807) :
    Calls Try.prog 12 #[.slice A n c, .string s] w fun y w' => y = .returned (.tuple #[.int .u32 (x : Int), .int .i64 e]) ∧ w = w' := by
  have := sum_any A n c t s w hr hl ht hs
  rw [h] at this
  exact this
theorem refSum_as {A : Option Addr} {n c : Nat} {t : List Nat} {s : ByteArray} {w : World} {x : Nat} {e : Int} (h : sumR t s.data.toList = (x, e)) (hr : Rd w A (u32s t)) (hl : t.length = n) (ht : ∀ x ∈ t, x < 4294967296) (hs : s.size ≤ 9223372036854775807) :
    Calls Try.prog 13 #[.slice A n c, .string s] w fun y w' => y = .returned (.tuple #[.int .u32 (x : Int), .int .i64 e]) ∧ w = w' := by
  have := refSum_any A n c t s w hr hl ht hs
  rw [h] at this
  exact this

theorem look' {w : World} {A : Option Addr} {t : List Nat} (hr : Rd w A (u32s t)) {k : Nat} (hk : k < t.length) :
    ∃ b off, A = some ⟨b, off, none⟩ ∧ b < w.heap.size ∧ w.cell? ⟨b, off + k, none⟩ = some (.int .u32 ((t.getD k 0 : Nat) : Int)) := by
  obtain ⟨b, off, e, hb, h⟩ := hr.get (k := k) (by rw [u32s_len]; exact hk)
  refine ⟨b, off, e, hb, ?_⟩
  rw [h]
  simp [u32s, List.getD_eq_getElem?_getD]
  rw [List.getElem?_eq_getElem hk]
  rfl

/-- The sum with the table. -/
def crc (l : List UInt8) : Nat := fin (plain 4294967295 l)
theorem crc_lt (l : List UInt8) : crc l < 4294967296 := xlt (plain_lt l (by omega)) (by omega)
theorem sumR_tab (l : List UInt8) : sumR tab l = (crc l, 0) := by
  unfold sumR crc
  rw [if_neg (by rw [tab_len]; simp), tsum_tab]
theorem sum_tab {A : Option Addr} {c : Nat} (s : ByteArray) {w : World} (hr : Rd w A (u32s tab)) (hs : s.size ≤ 9223372036854775807) :
    Calls Try.prog 12 #[.slice A 256 c, .string s] w fun y w' => y = .returned (.tuple #[.int .u32 (crc s.data.toList : Int), .int .i64 0]) ∧ w = w' :=
  sum_as (sumR_tab _) hr tab_len tab_lt hs

theorem crc_nine : crc [49, 50, 51, 52, 53, 54, 55, 56, 57] = 3421780262 := by decide +kernel

set_option maxRecDepth 100000 in
set_option maxHeartbeats 400000 in
theorem awake_any (w : World) : Calls Try.prog 11 #[] w fun e w' => e = .returned (.bool true) ∧ Below w.heap.size w w' := by
  have c2 : ∀ (A : Option Addr) (c : Nat) (w : World), Rd w A (u32s tab) → Calls Try.prog 12 #[.slice A 256 c, .string ⟨#[49, 50, 51, 52, 53, 54, 55, 56, 57]⟩] w fun e w' => e = .returned (.tuple #[.int .u32 3421780262, .int .i64 0]) ∧ w = w' := fun A c w h => by
    have := sum_tab (c := c) ⟨#[49, 50, 51, 52, 53, 54, 55, 56, 57]⟩ h (by decide)
    rw [show (ByteArray.mk #[49, 50, 51, 52, 53, 54, 55, 56, 57]).data.toList = [49, 50, 51, 52, 53, 54, 55, 56, 57] from rfl, crc_nine] at this
    exact this
  have c3 : ∀ w : World, Calls Try.prog 15 #[.int .u32 3421780262] w fun e w' => e = .returned (.string ⟨#[203, 244, 57, 38]⟩) ∧ Below w.heap.size w w' := fun w => by
    have := bytes_any 3421780262 (by decide) w
    rw [show bs (sumB 3421780262) = ⟨#[203, 244, 57, 38]⟩ by decide +kernel] at this
    exact this
  have C2 := Lib.hid c2
  have C3 := Lib.hid c3
  clear c2 c3
  go_enter Try.func11, Try.ntmps11
  go_wp2_with fail
  refine (table_any _).mono ?_
  rintro e w1 ⟨A, rfl, hr, hb1⟩
  have HR := Lib.hid hr
  clear hr
  go_wp2_with fail
  refine (C2.out _ _ _ HR.out).mono ?_
  rintro e w2 ⟨rfl, rfl⟩
  go_wp2_with fail
  refine (C3.out _).mono ?_
  rintro e w3 ⟨rfl, hb3⟩
  go_wp2
  go_ret
  exact ⟨by simp, hb1.trans (hb3.mono hb1.size)⟩

set_option maxRecDepth 100000 in
set_option maxHeartbeats 400000 in
theorem lawBytes (w : World) (z : Int) (h0 : 0 ≤ z) (h1 : z ≤ 4294967295) :
    Calls Try.prog 6 #[.int .u32 z] w fun e w' => e = .returned (.bool true) ∧ Below w.heap.size w w' := by
  obtain ⟨c, rfl⟩ := Int.eq_ofNat_of_zero_le h0
  go_enter Try.func6, Try.ntmps6
  go_wp2_with fail
  refine (awake_any _).mono ?_
  rintro e w1 ⟨rfl, hb1⟩
  go_wp2_with fail
  refine (bytes_any c (by omega) _).mono ?_
  rintro e w2 ⟨rfl, hb2⟩
  go_wp2_with fail
  refine (refBytes_any c (by omega) _).mono ?_
  rintro e w3 ⟨rfl, hb3⟩
  have s1 := hb1.size
  have s2 := hb2.size
  go_wp2
  go_ret
  exact ⟨by simp, (hb1.trans (hb2.mono (by omega))).trans (hb3.mono (by omega))⟩

set_option maxRecDepth 100000 in
set_option maxHeartbeats 400000 in
theorem lawTable (w : World) :
    Calls Try.prog 3 #[] w fun e w' => e = .returned (.bool true) ∧ Below w.heap.size w w' := by
  go_enter Try.func3, Try.ntmps3
  go_wp2_with fail
  refine (table_any _).mono ?_
  rintro e w1 ⟨A, rfl, ha, hb1⟩
  have HA := Lib.hid ha
  clear ha
  go_wp2_with fail
  refine (refTable_any _).mono ?_
  rintro e w2 ⟨B, c, rfl, hb, hb2⟩
  have HA2 := Lib.hid (HA.out.keep hb2)
  have HB := Lib.hid hb
  have hb12 : Below w.heap.size w w2 := hb1.trans (hb2.mono hb1.size)
  clear hb HA hb2
  go_wp2
  go_loopw [3] (fun i wr => ∃ k : Nat, k ≤ 256 ∧ i = .int .i64 (k : Int) ∧ Below w.heap.size w wr ∧ Below w2.heap.size w2 wr) (fun i _ => 256 - (intOf i).toNat)
  case atStart => exact ⟨0, by omega, rfl, hb12, Below.refl _ _⟩
  case round =>
    obtain ⟨k, hk, rfl, hbw, hbw2⟩ := hrel
    have hbn : ∀ n, Below w.heap.size w (wr.drewN n) ∧ Below w2.heap.size w2 (wr.drewN n) := fun n => ⟨below_drewN hbw n, below_drewN hbw2 n⟩
    have HN := Lib.hid hbn
    clear hbn
    by_cases hlt : k < 256
    · have h1 := look' (HA2.out.keep hbw2) (k := k) (by rw [tab_len]; exact hlt)
      have h2 := look' (HB.out.keep hbw2) (k := k) (by rw [tab_len]; exact hlt)
      obtain ⟨b, off, rfl, hbl, hc⟩ := h1
      obtain ⟨b', off', rfl, hbl', hc'⟩ := h2
      clear hbw2 hb12
      go_wp2
      go_quiet (fail)
      go_wp2
      go_roundw
      case rel => exact ⟨k + 1, by omega, by go_num, (HN.out nq).1, (HN.out nq).2⟩
      case measure => simp [intOf]; omega
    · obtain rfl : k = 256 := by omega
      go_wp2
      go_ret
      exact ⟨rfl, hbw⟩

end Go.Proofs.Ytohpngnlfegkhaa.C2
