/-
  Layer 4: orders, middles and sums; what is ordered is there once.
-/
import Derived.Test.YtcpacgflljmlaaaG4m
import Derived.Test.YtcpacgflljmlaaaFl
namespace Go.Proofs.Ytcpacgflljmlaaa.G4
open Go.RowKit Go.PlainAid
set_option linter.unusedVariables false

theorem midV_lt {l : List Nat} (hf : Fl l) : midV l < 18446744073709551616 := by
  unfold midV
  split
  · decide
  · rename_i h; exact (nums_nm hf _ (midOf_mem h)).1

set_option maxRecDepth 100000 in
set_option maxHeartbeats 2000000 in
theorem lawOrders (w : World) (a : Option Addr) (len cap : Nat) (zs : List Nat) (h : IsFls w a len cap zs) (hcap : cap * 8 ≤ 140737488351232) :
    Calls Try.prog 5 #[.slice a len cap] w fun e w' => e = .returned (.bool true) ∧ Below w.heap.size w w' := by
  obtain ⟨hr, hl, hf⟩ := Rd.of_fls h
  have hr : Rd w a (fls (zs.take len)) := hr
  have hf : Fl (zs.take len) := hf
  have hlc : len ≤ cap := by
    rcases h with ⟨_, rfl, _⟩ | ⟨_, _, h1, _⟩ <;> omega
  clear h
  generalize zs.take len = l at hr hl hf
  have HR := Lib.hid hr
  have HL := Lib.hid hl
  have HF := Lib.hid hf
  clear hr hl hf
  by_cases hlen : 300 < len
  · go_enter Try.func5, Try.ntmps5
    go_wp2_with fail
    refine (awake_any _).mono ?_
    rintro e w1 ⟨rfl, hb⟩
    go_wp2
    go_ret
    exact ⟨rfl, hb⟩
  · have hlz : ¬ (300 : Int) < (len : Int) := by omega
    have hm := fun (w1 : World) (hr1 : Rd w1 a (fls l)) => middle_any a len cap l w1 hr1 HL.out HF.out (by omega)
    have hm2 := fun (w1 : World) (hr1 : Rd w1 a (fls l)) => refMiddle_any a len cap l w1 hr1 HL.out HF.out (by omega)
    generalize midV l = mv at hm hm2
    have hme : midE l = 0 ∨ midE l = 40 := by unfold midE; split <;> simp
    generalize midE l = me at hm hm2 hme
    have hee : (me == me) = true := by simp
    have HMM := Lib.hid hm
    have HMM2 := Lib.hid hm2
    clear hm hm2 hme
    go_enter Try.func5, Try.ntmps5
    go_wp2_with fail
    refine (HMM.out _ HR.out).mono ?_
    rintro e w1 ⟨rfl, hb1⟩
    have hr1 := HR.out.keep hb1
    have HB1 := Lib.hid hb1
    clear hb1
    go_wp2_with fail
    refine (HMM2.out _ hr1).mono ?_
    rintro e w2 ⟨rfl, hb2⟩
    have hb2' := HB1.out.trans (hb2.mono HB1.out.size)
    clear HB1 hb2 hr1
    have HB2 := Lib.hid hb2'
    clear hb2'
    go_wp2_with fail
    refine (awake_any _).mono ?_
    rintro e w3 ⟨rfl, hb3⟩
    have hb3' := HB2.out.trans (hb3.mono HB2.out.size)
    clear HB2 hb3
    have hr3 := HR.out.keep hb3'
    have HB3 := Lib.hid hb3'
    clear hb3'
    go_wp2_with fail
    refine (order_any a len cap l _ hr3 HL.out HF.out (by omega)).mono ?_
    rintro e w4 ⟨v4, o4, rfl, ho4, hown4, hb4⟩
    have hb4' := HB3.out.trans (hb4.mono HB3.out.size)
    clear HB3 hb4 hr3
    have hr4 := HR.out.keep hb4'
    obtain ⟨A4, c4, rfl, hrd4, hl4⟩ := Rd.of_own hown4
    have HB4 := Lib.hid hb4'
    have HRD4 := Lib.hid hrd4
    have HO4 := Lib.hid ho4
    clear hb4' hrd4 ho4 hl4 hown4
    go_wp2_with fail
    refine (refOrder_any a len cap l _ hr4 HL.out HF.out (by omega)).mono ?_
    rintro e w5 ⟨v5, o5, rfl, ho5, hown5, hb5⟩
    have ho : o5 = o4 := IsOrd.unique ho5 HO4.out
    subst ho
    have hb5' := HB4.out.trans (hb5.mono HB4.out.size)
    have hrd4 := HRD4.out.keep hb5
    clear HB4 hb5 hr4 HRD4 HO4
    obtain ⟨A5, c5, rfl, hrd5, hl5⟩ := Rd.of_own hown5
    have ho5l : o5.length = len := by rw [ho5.len, HL.out]
    have HB5 := Lib.hid hb5'
    clear hb5' ho5 hown5 hl5
    go_wp2_with fail
    refine (sameInts_any A4 A5 len c4 c5 o5 _ hrd4 hrd5 ho5l (by omega)).mono ?_
    rintro e w6 ⟨rfl, hb6⟩
    have hb6' := HB5.out.trans (hb6.mono HB5.out.size)
    clear HB5 hb6 hrd4 hrd5 ho5l
    have HB6 := Lib.hid hb6'
    clear hb6'
    go_wp2_with fail
    refine (same_any mv mv _).mono ?_
    rintro e w7 ⟨rfl, rfl⟩
    rw [decide_eq_true (rfl : bitsOf mv = bitsOf mv)]
    have hr6 := HR.out.keep HB6.out
    go_wp2_with fail
    refine (sum_any a len cap l _ hr6 HL.out HF.out (by omega)).mono ?_
    rintro e w8 ⟨x, rfl, hx, hb8⟩
    have hb8' := HB6.out.trans (hb8.mono HB6.out.size)
    clear HB6 hb8 hr6
    have hr8 := HR.out.keep hb8'
    have HX := Lib.hid hx
    have HB8 := Lib.hid hb8'
    clear hx hb8'
    go_wp2_with fail
    refine (refSum_any a len cap l _ hr8 HL.out HF.out (by omega)).mono ?_
    rintro e w9 ⟨y, rfl, hy, hb9⟩
    have hb9' := HB8.out.trans (hb9.mono HB8.out.size)
    have hxy := HX.out.bits hy
    have HXY := Lib.hid hxy
    clear HB8 hb9 hr8 hy hxy
    have HB9 := Lib.hid hb9'
    clear hb9'
    go_wp2_with fail
    refine (same_any x y _).mono ?_
    rintro e w10 ⟨rfl, rfl⟩
    rw [decide_eq_true HXY.out]
    go_wp2
    go_ret
    exact ⟨rfl, HB9.out⟩

end Go.Proofs.Ytcpacgflljmlaaa.G4
