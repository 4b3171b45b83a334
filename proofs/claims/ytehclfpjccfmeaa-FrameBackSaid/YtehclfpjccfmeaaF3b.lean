/-
  Layer 3, walks: one frame taken.
-/
import Derived.Test.YtehclfpjccfmeaaF3a
namespace Go.Proofs.Ytehclfpjccfmeaa.F3
open Go.RowKit Go.PlainAid V1 C2 M2 M3
set_option linter.unusedVariables false

theorem bs_toList (l : List UInt8) : (bs l).toList = l := by rw [ByteArray.toList_eq]; rfl
theorem below_drew1 {B : Nat} {w w' : World} (h : Below B w.drew w') : Below B w w' := ⟨h.os, h.tape, h.output, h.size, h.block⟩

set_option maxRecDepth 100000 in
set_option maxHeartbeats 400000 in
theorem next_any (A : Option Addr) (c : Nat) (s : ByteArray) (w : World) (hr : Rd w A (u32s tab)) (hs : s.size ≤ 9223372036854775807) :
    Calls Try.prog 12 #[.slice A 256 c, .string s] w fun e w' => e = .returned (.tuple #[.string (bs (next s.data.toList).1), .string (bs (next s.data.toList).2.1), .int .i64 (next s.data.toList).2.2]) ∧ Below w.heap.size w w' := by
  have HR := Lib.hid hr
  clear hr
  have hsl : s.data.toList.length = s.size := rfl
  rcases take_cases s.data.toList with ⟨e0, h, he⟩ | ⟨n, r, h, hn9, hrl⟩
  · have HT := Lib.hid h
    have HN := Lib.hid (next_bad h he)
    clear h hsl
    have hd : (e0 == (0 : Int)) = false := beq_eq_false_iff_ne.2 (by omega)
    have hd2 : (e0 != (0 : Int)) = true := by simp; omega
    go_enter Try.func12, Try.ntmps12
    go_wp2_with fail
    refine (terr_tab A c _ HR.out).mono ?_
    rintro e w1 ⟨rfl, rfl⟩
    go_wp2_with fail
    refine (take_as HT.out hs _).mono ?_
    rintro e w1 ⟨rfl, hb1⟩
    go_wp2
    go_ret3
    rw [HN.out]
    exact ⟨rfl, hb1⟩
  have HT := Lib.hid h
  by_cases hn : 1048576 < n
  · have HN := Lib.hid (next_long h hn)
    clear h hsl hrl
    go_enter Try.func12, Try.ntmps12
    go_wp2_with fail
    refine (terr_tab A c _ HR.out).mono ?_
    rintro e w1 ⟨rfl, rfl⟩
    go_wp2_with fail
    refine (take_as HT.out hs _).mono ?_
    rintro e w1 ⟨rfl, hb1⟩
    go_wp2
    go_ret3
    rw [HN.out]
    exact ⟨rfl, hb1⟩
  have hbs : (bs r).size = r.length := rfl
  have hrz : r.length ≤ 9223372036854775807 := by omega
  by_cases hr4 : r.length < n + 4
  · have HN := Lib.hid (next_short h hn hr4)
    clear h hsl hrl
    go_enter Try.func12, Try.ntmps12
    go_wp2_with fail
    refine (terr_tab A c _ HR.out).mono ?_
    rintro e w1 ⟨rfl, rfl⟩
    go_wp2_with fail
    refine (take_as HT.out hs _).mono ?_
    rintro e w1 ⟨rfl, hb1⟩
    go_wp2
    go_ret3
    rw [HN.out]
    exact ⟨rfl, hb1⟩
  have hnr : n ≤ r.length := by omega
  have hnr4 : n + 4 ≤ r.length := by omega
  have hw4 : IntKind.i64.wrap ((n : Int) + 4) = ((n + 4 : Nat) : Int) := IntWalk.i64_in _ (by omega)
  have hx0 : (bs r).extract 0 n = bs (r.take n) := ext_pre r n
  have hx1 : (bs r).extract n (n + 4) = bs ((r.drop n).take 4) := by
    apply bs_ext
    rw [ext_list, bs_list, bs_list]
    congr 1; omega
  have hx2 : (bs r).extract ((n : Int) + 4).toNat r.length = bs (r.drop (n + 4)) := by
    rw [show ((n : Int) + 4).toNat = n + 4 by omega]
    exact ext_end (bs r) (n + 4)
  have HX0 := Lib.hid hx0
  have HX1 := Lib.hid hx1
  have HX2 := Lib.hid hx2
  have hc := crc_lt (r.take n)
  have hcr : crc (bs (r.take n)).data.toList = crc (r.take n) := rfl
  clear hx0 hx1 hx2
  have hz : (bs (r.take n)).size ≤ 9223372036854775807 := by rw [bs_size, List.length_take]; omega
  by_cases hsum : (r.drop n).take 4 = sumB (crc (r.take n))
  · have HN := Lib.hid (next_ok h hn hr4 hsum)
    have HD := Lib.hid (show (!((bs r).extract n (n + 4)).toList == (bs (sumB (crc (r.take n)))).toList) = false by rw [HX1.out, bs_toList, bs_toList, hsum]; simp)
    clear h hsl hrl hsum
    generalize hk : crc (r.take n) = k at hc hcr HD
    clear hk
    go_enter Try.func12, Try.ntmps12
    go_wp2_with fail
    refine (terr_tab A c _ HR.out).mono ?_
    rintro e w1 ⟨rfl, rfl⟩
    go_wp2_with fail
    refine (take_as HT.out hs _).mono ?_
    rintro e w1 ⟨rfl, hb1⟩
    go_wp2_with fail
    rw [HX0.out]
    have hr1 := HR.out.keep hb1
    refine (sum_tab _ hr1 hz).mono ?_
    clear hr1
    rw [hcr]
    rintro e w1 ⟨rfl, rfl⟩
    go_wp2
    go_region_with ((go_at_call 22; refine (C2.bytes_any k hc _).mono ?_; rintro e w2 ⟨rfl, hb2⟩))
    all_goals rw [HD.out]
    all_goals have hb := hb1.trans ((below_drew1 hb2).mono hb1.size)
    all_goals clear hb2 hb1
    all_goals go_wp2
    all_goals go_quiet (fail)
    all_goals go_wp2
    all_goals go_ret3
    all_goals rw [HN.out]
    all_goals exact ⟨ret3s HX0.out HX2.out rfl, below_drewN hb _⟩
  · have HN := Lib.hid (next_sum h hn hr4 hsum)
    have HD := Lib.hid (show (!((bs r).extract n (n + 4)).toList == (bs (sumB (crc (r.take n)))).toList) = true by rw [HX1.out, bs_toList, bs_toList]; simp [hsum])
    clear h hsl hrl hsum
    generalize hk : crc (r.take n) = k at hc hcr HD
    clear hk
    go_enter Try.func12, Try.ntmps12
    go_wp2_with fail
    refine (terr_tab A c _ HR.out).mono ?_
    rintro e w1 ⟨rfl, rfl⟩
    go_wp2_with fail
    refine (take_as HT.out hs _).mono ?_
    rintro e w1 ⟨rfl, hb1⟩
    go_wp2_with fail
    rw [HX0.out]
    have hr1 := HR.out.keep hb1
    refine (sum_tab _ hr1 hz).mono ?_
    clear hr1
    rw [hcr]
    rintro e w1 ⟨rfl, rfl⟩
    go_wp2
    go_region_with ((go_at_call 22; refine (C2.bytes_any k hc _).mono ?_; rintro e w2 ⟨rfl, hb2⟩))
    all_goals rw [HD.out]
    all_goals have hb := hb1.trans ((below_drew1 hb2).mono hb1.size)
    all_goals clear hb2 hb1
    all_goals go_wp2
    all_goals go_ret3
    all_goals rw [HN.out]
    all_goals exact ⟨rfl, hb⟩

set_option maxRecDepth 100000 in
set_option maxHeartbeats 400000 in
theorem next_odd (A : Option Addr) (n c : Nat) (t : List Nat) (s : ByteArray) (w : World) (hr : Rd w A (u32s t)) (hl : t.length = n) (h256 : n ≠ 256) (ht : ∀ x ∈ t, x < 4294967296) :
    Calls Try.prog 12 #[.slice A n c, .string s] w fun e w' => e = .returned (.tuple #[.string (bs []), .string (bs []), .int .i64 1]) ∧ w = w' := by
  have HR := Lib.hid hr
  have HL := Lib.hid hl
  have HT := Lib.hid ht
  clear hr hl ht
  go_enter Try.func12, Try.ntmps12
  go_wp2_with fail
  refine (terr_odd A n c t _ HR.out HL.out h256 HT.out).mono ?_
  rintro e w1 ⟨rfl, rfl⟩
  go_wp2
  go_ret3
  exact ⟨rfl, rfl⟩

set_option maxRecDepth 100000 in
set_option maxHeartbeats 400000 in
theorem refNext_any (A : Option Addr) (c : Nat) (s : ByteArray) (w : World) (hr : Rd w A (u32s tab)) (hs : s.size ≤ 9223372036854775807) :
    Calls Try.prog 13 #[.slice A 256 c, .string s] w fun e w' => e = .returned (.tuple #[.string (bs (next s.data.toList).1), .string (bs (next s.data.toList).2.1), .int .i64 (next s.data.toList).2.2]) ∧ Below w.heap.size w w' := by
  have HR := Lib.hid hr
  clear hr
  have hsl : s.data.toList.length = s.size := rfl
  rcases take_cases s.data.toList with ⟨e0, h, he⟩ | ⟨n, r, h, hn9, hrl⟩
  · have HT := Lib.hid h
    have HN := Lib.hid (next_bad h he)
    clear h hsl
    have hd : (e0 == (0 : Int)) = false := beq_eq_false_iff_ne.2 (by omega)
    have hd2 : (e0 != (0 : Int)) = true := by simp; omega
    go_enter Try.func13, Try.ntmps13
    go_wp2_with fail
    refine (refTake_as HT.out hs _).mono ?_
    rintro e w1 ⟨rfl, hb1⟩
    go_wp2
    go_ret3
    rw [HN.out]
    exact ⟨rfl, hb1⟩
  have HT := Lib.hid h
  by_cases hn : 1048576 < n
  · have HN := Lib.hid (next_long h hn)
    clear h hsl hrl
    go_enter Try.func13, Try.ntmps13
    go_wp2_with fail
    refine (refTake_as HT.out hs _).mono ?_
    rintro e w1 ⟨rfl, hb1⟩
    go_wp2
    go_ret3
    rw [HN.out]
    exact ⟨rfl, hb1⟩
  have hbs : (bs r).size = r.length := rfl
  have hrz : r.length ≤ 9223372036854775807 := by omega
  by_cases hr4 : r.length < n + 4
  · have HN := Lib.hid (next_short h hn hr4)
    clear h hsl hrl
    go_enter Try.func13, Try.ntmps13
    go_wp2_with fail
    refine (refTake_as HT.out hs _).mono ?_
    rintro e w1 ⟨rfl, hb1⟩
    go_wp2
    go_ret3
    rw [HN.out]
    exact ⟨rfl, hb1⟩
  have hnr : n ≤ r.length := by omega
  have hnr4 : n + 4 ≤ r.length := by omega
  have hw4 : IntKind.i64.wrap ((n : Int) + 4) = ((n + 4 : Nat) : Int) := IntWalk.i64_in _ (by omega)
  have hx0 : (bs r).extract 0 n = bs (r.take n) := ext_pre r n
  have hx1 : (bs r).extract n (n + 4) = bs ((r.drop n).take 4) := by
    apply bs_ext
    rw [ext_list, bs_list, bs_list]
    congr 1; omega
  have hx2 : (bs r).extract ((n : Int) + 4).toNat r.length = bs (r.drop (n + 4)) := by
    rw [show ((n : Int) + 4).toNat = n + 4 by omega]
    exact ext_end (bs r) (n + 4)
  have HX0 := Lib.hid hx0
  have HX1 := Lib.hid hx1
  have HX2 := Lib.hid hx2
  have hc := crc_lt (r.take n)
  have hcr : crc (bs (r.take n)).data.toList = crc (r.take n) := rfl
  clear hx0 hx1 hx2
  have hz : (bs (r.take n)).size ≤ 9223372036854775807 := by rw [bs_size, List.length_take]; omega
  by_cases hsum : (r.drop n).take 4 = sumB (crc (r.take n))
  · have HN := Lib.hid (next_ok h hn hr4 hsum)
    have HD := Lib.hid (show (!(bs (sumB (crc (r.take n)))).toList == ((bs r).extract n (n + 4)).toList) = false by rw [HX1.out, bs_toList, bs_toList, hsum]; simp)
    clear h hsl hrl hsum
    generalize hk : crc (r.take n) = k at hc hcr HD
    clear hk
    go_enter Try.func13, Try.ntmps13
    go_wp2_with fail
    refine (refTake_as HT.out hs _).mono ?_
    rintro e w1 ⟨rfl, hb1⟩
    go_wp2_with fail
    rw [HX0.out]
    have hr1 := HR.out.keep hb1
    refine (refSum_tab _ hr1 hz).mono ?_
    clear hr1
    rw [hcr]
    rintro e w1 ⟨rfl, rfl⟩
    go_wp2
    go_region_with ((go_at_call 25; refine (C2.refBytes_any k hc _).mono ?_; rintro e w2 ⟨rfl, hb2⟩))
    all_goals rw [HD.out]
    all_goals have hb := hb1.trans ((below_drew1 hb2).mono hb1.size)
    all_goals clear hb2 hb1
    all_goals go_wp2
    all_goals go_quiet (fail)
    all_goals go_wp2
    all_goals go_ret3
    all_goals rw [HN.out]
    all_goals exact ⟨ret3s HX0.out HX2.out rfl, below_drewN hb _⟩
  · have HN := Lib.hid (next_sum h hn hr4 hsum)
    have HD := Lib.hid (show (!(bs (sumB (crc (r.take n)))).toList == ((bs r).extract n (n + 4)).toList) = true by rw [HX1.out, bs_toList, bs_toList]; simp [Ne.symm hsum])
    clear h hsl hrl hsum
    generalize hk : crc (r.take n) = k at hc hcr HD
    clear hk
    go_enter Try.func13, Try.ntmps13
    go_wp2_with fail
    refine (refTake_as HT.out hs _).mono ?_
    rintro e w1 ⟨rfl, hb1⟩
    go_wp2_with fail
    rw [HX0.out]
    have hr1 := HR.out.keep hb1
    refine (refSum_tab _ hr1 hz).mono ?_
    clear hr1
    rw [hcr]
    rintro e w1 ⟨rfl, rfl⟩
    go_wp2
    go_region_with ((go_at_call 25; refine (C2.refBytes_any k hc _).mono ?_; rintro e w2 ⟨rfl, hb2⟩))
    all_goals rw [HD.out]
    all_goals have hb := hb1.trans ((below_drew1 hb2).mono hb1.size)
    all_goals clear hb2 hb1
    all_goals go_wp2
    all_goals go_ret3
    all_goals rw [HN.out]
    all_goals exact ⟨rfl, hb⟩

set_option maxRecDepth 100000 in
set_option maxHeartbeats 400000 in
theorem refNext_odd (A : Option Addr) (n c : Nat) (t : List Nat) (s : ByteArray) (w : World) (hr : Rd w A (u32s t)) (hl : t.length = n) (h256 : n ≠ 256) (ht : ∀ x ∈ t, x < 4294967296) :
    Calls Try.prog 13 #[.slice A n c, .string s] w fun e w' => e = .returned (.tuple #[.string (bs []), .string (bs []), .int .i64 1]) ∧ w = w' := by
  have HR := Lib.hid hr
  have HL := Lib.hid hl
  have HT := Lib.hid ht
  clear hr hl ht
  go_enter Try.func13, Try.ntmps13
  go_wp2
  go_ret3
  exact ⟨rfl, rfl⟩

end Go.Proofs.Ytehclfpjccfmeaa.F3
