/-
  Layer 3: the stage's theorems.
-/
import Derived.Test.YtehclfpjccfmeaaF3g
namespace Go.Proofs.Ytehclfpjccfmeaa.F3
open Go.RowKit Go.PlainAid V1 C2 M2 M3
set_option linter.unusedVariables false

theorem frms_total (ls : List (List UInt8)) (h : ∀ l ∈ ls, l.length ≤ 1048576) : (frms ls).length ≤ total ls + 13 * ls.length := by
  induction ls with
  | nil => simp [frms]
  | cons l ls ih =>
    have h1 := frm_le (h l (by simp))
    have h2 := ih (fun x hx => h x (by simp [hx]))
    have h3 : total (l :: ls) = l.length + total ls := by simp [total]
    rw [frms_cons, List.length_append, List.length_cons]
    omega
theorem mem_total {ls : List (List UInt8)} {l : List UInt8} (h : l ∈ ls) : l.length ≤ total ls := by
  induction ls with
  | nil => simp at h
  | cons a ls ih =>
    have h3 : total (a :: ls) = a.length + total ls := by simp [total]
    rcases List.mem_cons.1 h with rfl | h
    · omega
    · have := ih h; omega

/-- A row of texts that came in. -/
theorem row_strs {w : World} {a : Option Addr} {len cap : Nat} {ss : List ByteArray} (h : IsStrs w a len cap ss) (hc : cap * 16 ≤ 140737488351232) :
    ∃ ls : List (List UInt8), Rd w a (strs ls) ∧ ls.length = len ∧ (∀ l ∈ ls, l.length ≤ 140737488351232) ∧ len ≤ cap := by
  obtain ⟨h1, h2, h3⟩ := Rd.of_strs h
  refine ⟨(ss.take len).map fun s => s.data.toList, by rw [strs_of]; exact h1, by rw [List.length_map]; exact h2, ?_, ?_⟩
  · intro l hl
    obtain ⟨s, hs, rfl⟩ := List.mem_map.1 hl
    have h4 := h3 s hs
    have h5 : s.data.toList.length = s.size := rfl
    omega
  · rcases h with ⟨_, rfl, rfl, _⟩ | ⟨_, _, hl, _⟩
    · omega
    · exact hl

set_option maxRecDepth 100000 in
set_option maxHeartbeats 1000000 in
theorem lawBack (w : World) (a : Option Addr) (len cap : Nat) (ss : List ByteArray) (hrow : IsStrs w a len cap ss) (hc : cap * 16 ≤ 140737488351232) :
    Calls Try.prog 5 #[.slice a len cap] w fun e w' => e = .returned (.bool true) ∧ Below w.heap.size w w' := by
  obtain ⟨ls, hr, rfl, hz, hlc⟩ := row_strs hrow hc
  have HL := Lib.hid hr
  have HZ := Lib.hid hz
  clear hr hz hrow
  go_enter Try.func5, Try.ntmps5
  go_wp2_with fail
  refine (awake_any _).mono ?_
  rintro e w1 ⟨rfl, hb1⟩
  have HL := Lib.hid (HL.out.keep hb1)
  go_wp2_with fail
  refine (few_any a ls.length cap ls _ HL.out rfl (by omega) (fun l h => Nat.le_trans (HZ.out l h) (by omega))).mono ?_
  rintro e w2 ⟨rfl, rfl⟩
  cases hf : fewB ls with
  | false =>
    go_wp2
    go_ret
    exact ⟨rfl, hb1⟩
  | true =>
    obtain ⟨ht, h50⟩ := fewB_ok hf
    have hm : ∀ l ∈ ls, l.length ≤ 1048576 := fun l h => by have := mem_total h; omega
    have hft := frms_total ls hm
    have HS := Lib.hid (split_put ls hm)
    clear hf hm
    go_wp2_with fail
    refine (all_any a ls.length cap ls _ HL.out rfl (by omega)).mono ?_
    rintro e w2 ⟨v, rfl, ho, hb2⟩
    have hb1 := chain hb1 hb2
    have HL := Lib.hid (HL.out.keep hb2)
    clear hb2 ho
    have hsz : (bs (frms ls)).size = (frms ls).length := rfl
    go_wp2_with fail
    refine (tb_false _).mono ?_
    rintro e w3 ⟨A, c, rfl, hr, hb2⟩
    have HR := Lib.hid hr
    have hb1 := chain hb1 hb2
    have HL := Lib.hid (HL.out.keep hb2)
    clear hb2 hr
    go_wp2_with fail
    refine (split_as (s := bs (frms ls)) (by omega) HR.out HS.out).mono ?_
    rintro e w4 ⟨B, d, rfl, hrd, hb2⟩
    have hb1 := chain hb1 hb2
    have HL := Lib.hid (HL.out.keep hb2)
    have HD := Lib.hid hrd
    clear hb2 hrd HR
    go_wp2_with fail
    refine (same_any B a ls.length d cap ls _ HD.out HL.out rfl (by omega)).mono ?_
    rintro e w5 ⟨rfl, hb2⟩
    go_wp2
    go_ret
    exact ⟨by simp, chain hb1 hb2⟩

theorem law_and65535 (n : Int) : bits .and .i64 n 65535 = n % 65536 := by
  have h127 : (BitVec.ofInt 64 65535).toNat = 2 ^ 16 - 1 := by decide
  have key : (BitVec.ofInt 64 n &&& BitVec.ofInt 64 65535).toNat = (n % ((2 ^ 64 : Nat) : Int)).toNat % 2 ^ 16 := by
    rw [BitVec.toNat_and, BitVec.toNat_ofInt, h127, Nat.and_two_pow_sub_one_eq_mod]
  show IntKind.i64.wrap ((BitVec.ofInt 64 n &&& BitVec.ofInt 64 65535).toNat : Nat) = n % 65536
  rw [key, IntKind.wrap_i64]
  omega

set_option maxRecDepth 100000 in
set_option maxHeartbeats 1000000 in
theorem lawAgain (w : World) (s : ByteArray) (hz : s.size ≤ 140737488351232) :
    Calls Try.prog 7 #[.string s] w fun e w' => e = .returned (.bool true) ∧ Below w.heap.size w w' := by
  obtain ⟨ls, r, x, hsp⟩ : ∃ ls r x, split s.data.toList = (ls, r, x) := ⟨_, _, _, rfl⟩
  obtain ⟨h1, h2, h3, h4⟩ := split_count hsp
  have hl : s.data.toList.length = s.size := rfl
  have h5 := congrArg List.length h1
  rw [List.length_append, hl] at h5
  have hx : s.extract 0 (frms ls).length = bs (frms ls) := by
    have := ext_pre s.data.toList (frms ls).length
    rw [bs_of] at this
    rw [this, h1, List.take_left]
  have hxn : x = 0 ↔ (r.length : Int) = 0 := by
    rw [h2]
    cases r <;> simp; omega
  rw [hl] at h4
  have HX := Lib.hid hx
  have HS := Lib.hid hsp
  have hn : (s.size : Int) - (r.length : Int) = ((frms ls).length : Int) := by omega
  have hle : (frms ls).length ≤ s.size := by omega
  have hd1 : ((x == (0 : Int)) == (((frms ls).length : Int) == (s.size : Int))) = true := by
    by_cases h0 : x = 0
    · have h6 := hxn.1 h0
      rw [beq_iff_eq.2 h0, beq_iff_eq.2 (show ((frms ls).length : Int) = (s.size : Int) by omega)]; rfl
    · have h6 : ¬ (r.length : Int) = 0 := fun h => h0 (hxn.2 h)
      rw [beq_eq_false_iff_ne.2 h0, beq_eq_false_iff_ne.2 (show ((frms ls).length : Int) ≠ (s.size : Int) by omega)]; rfl
  clear h1 h2 h3 hsp hl hx h5 hxn
  go_enter Try.func7, Try.ntmps7
  go_wp2_with fail
  refine (awake_any _).mono ?_
  rintro e w1 ⟨rfl, hb1⟩
  by_cases h3000 : s.size ≤ 3000
  · go_wp2_with fail
    refine (tb_false _).mono ?_
    rintro e w3 ⟨A, c, rfl, hr, hb2⟩
    have HR := Lib.hid hr
    have hb1 := chain hb1 hb2
    clear hb2 hr
    go_wp2_with fail
    refine (split_as (by omega) HR.out HS.out).mono ?_
    rintro e w4 ⟨B, d, rfl, hrd, hb2⟩
    have hb1 := chain hb1 hb2
    have HD := Lib.hid hrd
    clear hb2 hrd HR
    go_wp2_with fail
    refine (all_any B ls.length d ls _ HD.out rfl (by omega)).mono ?_
    rintro e w2 ⟨v, rfl, ho, hb2⟩
    have hb1 := chain hb1 hb2
    clear hb2 ho
    have ht : ((bs (frms ls)).toList == (s.extract 0 (frms ls).length).toList) = true := by rw [HX.out]; simp
    go_wp2
    go_ret
    exact ⟨rfl, hb1⟩
  · go_wp2
    go_ret
    exact ⟨rfl, hb1⟩

end Go.Proofs.Ytehclfpjccfmeaa.F3
