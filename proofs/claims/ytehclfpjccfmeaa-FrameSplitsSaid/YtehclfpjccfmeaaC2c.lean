/-
  Layer 2, walks: sums, a sum's bytes.
-/
import Derived.Test.YtehclfpjccfmeaaC2b
namespace Go.Proofs.Ytehclfpjccfmeaa.C2
open Go.RowKit M2
set_option linter.unusedVariables false

theorem take_snoc (s : ByteArray) (k : Nat) (h : k < s.size) : s.data.toList.take (k + 1) = s.data.toList.take k ++ [s[k]] := by
  rw [List.take_succ_eq_append_getElem (by simpa using h)]; rfl
theorem u8x (c : Nat) (b : UInt8) : bits .xor .u8 ((c : Int) % 256) (b.toNat : Int) = (((c ^^^ b.toNat) % 256 : Nat) : Int) := by
  have := u8_xor_nat (c % 256) b.toNat (Nat.mod_lt _ (by omega)) (UInt8.toNat_lt b)
  rw [show ((c : Int) % 256) = ((c % 256 : Nat) : Int) by simp, this]
  have h2 := Nat.xor_mod_two_pow (a := c) (b := b.toNat) (n := 8)
  rw [show (2 : Nat) ^ 8 = 256 from rfl, Nat.mod_eq_of_lt (UInt8.toNat_lt b)] at h2
  rw [h2]
theorem u32x {a b : Nat} (ha : a < 4294967296) (hb : b < 4294967296) : bits .xor .u32 (a : Int) (b : Int) = ((a ^^^ b : Nat) : Int) := u32_xor_nat a b ha hb

theorem u32xb {a : Nat} (ha : a < 4294967296) (b : UInt8) : bits .xor .u32 (a : Int) ((b.toNat : Int) % 4294967296) = ((a ^^^ b.toNat : Nat) : Int) := by
  rw [Int.emod_eq_of_lt (by omega) (by have := u8_lt b; omega)]
  exact u32x ha (u8_lt b)

def fin (c : Nat) : Nat := c ^^^ 4294967295
theorem fin_x {c : Nat} (h : c < 4294967296) : bits .xor .u32 (c : Int) 4294967295 = ((fin c : Nat) : Int) := u32_xor_nat c 4294967295 h (by omega)

theorem ret2i {k j : IntKind} {a b c d : Int} (h1 : a = c) (h2 : b = d) : Ending.returned (.tuple #[.int k a, .int j b]) = .returned (.tuple #[.int k c, .int j d]) := by rw [h1, h2]
theorem ret1i {k : IntKind} {a c : Int} (h1 : a = c) : Ending.returned (.int k a) = .returned (.int k c) := by rw [h1]

/-- B2's answers. -/
def sumR (t : List Nat) (l : List UInt8) : Nat × Int := if t.length ≠ 256 then (0, 1) else (fin (tsum t 4294967295 l), 0)

/-- What a round looks up. -/
theorem look {w : World} {A : Option Addr} {t : List Nat} {b off : Nat} (hA : A = some ⟨b, off, none⟩) (hr : Rd w A (u32s t)) (ht : t.length = 256) {x : Nat} (hx : x < 256) :
    w.cell? ⟨b, off + x, none⟩ = some (.int .u32 ((t.getD x 0 : Nat) : Int)) := by
  obtain ⟨b', off', e, _, h⟩ := hr.get (k := x) (by rw [u32s_len]; omega)
  rw [hA] at e
  cases e
  rw [h]
  simp [u32s, List.getD_eq_getElem?_getD]
  rw [List.getElem?_eq_getElem (by omega)]
  rfl

set_option maxRecDepth 100000 in
set_option maxHeartbeats 400000 in
theorem sum_any (A : Option Addr) (n c : Nat) (t : List Nat) (s : ByteArray) (w : World) (hr : Rd w A (u32s t)) (hl : t.length = n) (ht : ∀ x ∈ t, x < 4294967296) (hs : s.size ≤ 9223372036854775807) :
    Calls Try.prog 20 #[.slice A n c, .string s] w fun e w' => e = .returned (.tuple #[.int .u32 ((sumR t s.data.toList).1 : Int), .int .i64 (sumR t s.data.toList).2]) ∧ w = w' := by
  by_cases h256 : n = 256
  · subst h256
    have hfin : sumR t s.data.toList = (fin (tsum t 4294967295 s.data.toList), 0) := by unfold sumR; rw [if_neg (by omega)]
    obtain ⟨b, off, hA, _⟩ : ∃ b off, A = some ⟨b, off, none⟩ ∧ True := by
      obtain ⟨b, off, e, _⟩ := hr.get (k := 0) (by rw [u32s_len]; omega)
      exact ⟨b, off, e, trivial⟩
    subst hA
    have HF := Lib.hid hfin
    have HR := Lib.hid hr
    have HL := Lib.hid hl
    have HT := Lib.hid ht
    clear hfin hr hl ht
    go_enter Try.func20, Try.ntmps20
    go_wp2
    go_loop [6, 13] (fun v i => ∃ k : Nat, k ≤ s.size ∧ i = .int .i64 (k : Int) ∧ v = .int .u32 ((tsum t 4294967295 (s.data.toList.take k) : Nat) : Int)) (fun _ i => s.size - (intOf i).toNat)
    case atStart => exact ⟨0, by omega, rfl, rfl⟩
    case round =>
      obtain ⟨k, hk, rfl, rfl⟩ := hrel
      have hlt2 := tsum_lt HT.out (s.data.toList.take k) (c := 4294967295) (by omega)
      by_cases hlt : k < s.size
      · have HS := Lib.hid (tsum_snoc t 4294967295 (s.data.toList.take k) s[k])
        have HK := Lib.hid (take_snoc s k hlt)
        generalize tsum t 4294967295 (s.data.toList.take k) = d at hlt2 HS
        have hx := u8x d s[k]
        have hx2 : (d ^^^ s[k].toNat) % 256 < 256 := Nat.mod_lt _ (by omega)
        generalize hX : (d ^^^ s[k].toNat) % 256 = x at hx hx2
        have HX := Lib.hid hX
        clear hX
        have hc := look rfl HR.out HL.out hx2
        have hy := getD_lt HT.out x
        have HY := Lib.hid (u32x (a := d / 256) (by omega) hy)
        go_wp2
        go_round
        case rel => exact ⟨k + 1, by omega, by go_num, by rw [HK.out, HS.out, HX.out, ← HY.out]; simp⟩
        case measure => simp [intOf]; omega
      · have hk2 : (s.data.toList.take k) = s.data.toList := List.take_of_length_le (by have : s.data.toList.length = s.size := rfl; omega)
        have hx := fin_x hlt2
        rw [hk2] at hx
        have HX := Lib.hid (show bits .xor .u32 ((tsum t 4294967295 (s.data.toList.take k) : Nat) : Int) 4294967295 = ((sumR t s.data.toList).1 : Int) by rw [HF.out, hk2]; exact hx)
        clear hk2 hx
        go_wp2
        go_ret2
        exact ⟨ret2i HX.out (by rw [HF.out]), rfl⟩
  · have hfin : sumR t s.data.toList = (0, 1) := by unfold sumR; rw [if_pos (by omega)]
    have HF := Lib.hid hfin
    clear hfin hr ht
    go_enter Try.func20, Try.ntmps20
    go_wp2
    go_ret2
    exact ⟨by rw [HF.out]; rfl, rfl⟩

set_option maxRecDepth 100000 in
set_option maxHeartbeats 400000 in
theorem refSum_any (A : Option Addr) (n c : Nat) (t : List Nat) (s : ByteArray) (w : World) (hr : Rd w A (u32s t)) (hl : t.length = n) (ht : ∀ x ∈ t, x < 4294967296) (hs : s.size ≤ 9223372036854775807) :
    Calls Try.prog 23 #[.slice A n c, .string s] w fun e w' => e = .returned (.tuple #[.int .u32 ((sumR t s.data.toList).1 : Int), .int .i64 (sumR t s.data.toList).2]) ∧ w = w' := by
  by_cases h256 : n = 256
  · subst h256
    have hfin : sumR t s.data.toList = (fin (tsum t 4294967295 s.data.toList), 0) := by unfold sumR; rw [if_neg (by omega)]
    obtain ⟨b, off, hA, _⟩ : ∃ b off, A = some ⟨b, off, none⟩ ∧ True := by
      obtain ⟨b, off, e, _⟩ := hr.get (k := 0) (by rw [u32s_len]; omega)
      exact ⟨b, off, e, trivial⟩
    subst hA
    have HF := Lib.hid hfin
    have HR := Lib.hid hr
    have HL := Lib.hid hl
    have HT := Lib.hid ht
    clear hfin hr hl ht
    go_enter Try.func23, Try.ntmps23
    go_wp2
    go_loop [6, 7] (fun v i => ∃ k : Nat, k ≤ s.size ∧ i = .int .i64 (k : Int) ∧ v = .int .u32 ((tsum t 4294967295 (s.data.toList.take k) : Nat) : Int)) (fun _ i => s.size - (intOf i).toNat)
    case atStart => exact ⟨0, by omega, rfl, rfl⟩
    case round =>
      obtain ⟨k, hk, rfl, rfl⟩ := hrel
      have hlt2 := tsum_lt HT.out (s.data.toList.take k) (c := 4294967295) (by omega)
      by_cases hlt : k < s.size
      · have HS := Lib.hid (tsum_snoc t 4294967295 (s.data.toList.take k) s[k])
        have HK := Lib.hid (take_snoc s k hlt)
        generalize tsum t 4294967295 (s.data.toList.take k) = d at hlt2 HS
        have hx := u32xb hlt2 s[k]
        generalize hX : d ^^^ s[k].toNat = x at hx
        have HX := Lib.hid hX
        clear hX
        have hx2 : x % 256 < 256 := Nat.mod_lt _ (by omega)
        have hc := look rfl HR.out HL.out hx2
        have hy := getD_lt HT.out (x % 256)
        have HY := Lib.hid (u32x (a := d / 256) (by omega) hy)
        go_wp2
        go_round
        case rel => exact ⟨k + 1, by omega, by go_num, by rw [HK.out, HS.out, HX.out, ← HY.out]; simp⟩
        case measure => simp [intOf]; omega
      · have hk2 : (s.data.toList.take k) = s.data.toList := List.take_of_length_le (by have : s.data.toList.length = s.size := rfl; omega)
        have hx := fin_x hlt2
        rw [hk2] at hx
        have HX := Lib.hid (show bits .xor .u32 ((tsum t 4294967295 (s.data.toList.take k) : Nat) : Int) 4294967295 = ((sumR t s.data.toList).1 : Int) by rw [HF.out, hk2]; exact hx)
        clear hk2 hx
        go_wp2
        go_ret2
        exact ⟨ret2i HX.out (by rw [HF.out]), rfl⟩
  · have hfin : sumR t s.data.toList = (0, 1) := by unfold sumR; rw [if_pos (by omega)]
    have HF := Lib.hid hfin
    clear hfin hr ht
    go_enter Try.func23, Try.ntmps23
    go_wp2
    go_ret2
    exact ⟨by rw [HF.out]; rfl, rfl⟩

/-- B3's bytes. -/
def sumB (c : Nat) : List UInt8 := [UInt8.ofNat (c / 16777216), UInt8.ofNat (c / 65536), UInt8.ofNat (c / 256), UInt8.ofNat c]

end Go.Proofs.Ytehclfpjccfmeaa.C2
