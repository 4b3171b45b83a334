/-
  Layer 10: ShelfPlays.
-/
import Derived.Test.YtnbgnjpjdplocaaR10g
import Derived.Test.YtnbgnjpjdplocaaR10i
import Derived.Test.YtnbgnjpjdplocaaR10j
import Derived.Test.YtnbgnjpjdplocaaR10k
import Derived.Test.YtnbgnjpjdplocaaR10l
namespace Go.Proofs.Ytnbgnjpjdplocaa.Q10
open Go.RowKit Go.PlainAid
set_option linter.unusedVariables false
set_option linter.unusedSimpArgs false

theorem ok_of {x : Nm} (h : Q10A.idR x) : okNm x := by
  obtain ⟨⟨h1, h2⟩, ⟨h3, h4⟩, h5, h6⟩ := h
  refine ⟨⟨?_, ?_⟩, ?_⟩ <;> simp [Lit.wf, IntKind.min, IntKind.max, IntKind.signed, IntKind.bits] <;> omega
theorem same_any (s r : Nat) (w0 w : World) (l : List En) (h : JO s r w0 l l w) (a at_ x1 x2 x3 : Int) (q : Bool) (hx : okNm (x1, x2, x3)) (h1 : -9223372036854775808 ≤ at_) (h2 : at_ ≤ 9223372036854775807) (hfew : l.length + 1 ≤ 100000) :
    Calls Try.prog 8 #[.pointer (some ⟨s, 0, none⟩), .pointer (some ⟨r, 0, none⟩), actV a at_ x1 x2 x3 q] w fun e w' => e = .returned (.bool true) ∧ Same s r w0 l w' := by
  by_cases k14 : 14 ≤ bits .and .i64 a 15
  · exact same_last s r w0 w l h a at_ x1 x2 x3 _ q rfl k14 hx h1 h2 hfew
  by_cases k8 : bits .and .i64 a 15 < 8
  · exact same_put s r w0 w l h a at_ x1 x2 x3 _ q rfl k8 k14 hx h1 h2 hfew
  by_cases k11 : bits .and .i64 a 15 < 11
  · exact same_show s r w0 w l h a at_ x1 x2 x3 _ q rfl k8 k11 k14 hx h1 h2 hfew
  by_cases e11 : bits .and .i64 a 15 = 11
  · exact same_find s r w0 w l h a at_ x1 x2 x3 q e11 hx h1 h2 hfew
  by_cases e12 : bits .and .i64 a 15 = 12
  · exact same_place s r w0 w l h a at_ x1 x2 x3 q e12 hx h1 h2 hfew
  exact same_all s r w0 w l h a at_ x1 x2 x3 _ q rfl k8 k11 e11 e12 k14 hx h1 h2 hfew

set_option maxRecDepth 100000 in
set_option maxHeartbeats 4000000 in
theorem lawPlays (w : World) (a : Option Addr) (l : List Q10A.ActR) (cap : Nat) (hlen : l.length ≤ 9223372036854775807) (hr : Rd w a (l.flatMap Q10A.ActR.cells)) (hok : ∀ y ∈ l, y.ok) :
    Calls Try.prog 3 #[.slice a l.length cap] w fun e w' => e = .returned (.bool true) ∧ Below w.heap.size w w' := by
  have HR := Lib.hid hr
  have HO := Lib.hid hok
  clear hr hok
  obtain ⟨len, hln⟩ : ∃ len, len = l.length := ⟨_, rfl⟩
  have HLN := Lib.hid hln
  rw [← hln]
  rw [← hln] at hlen
  clear hln
  obtain ⟨N, hN1, hN2, hN3, hN4⟩ := lim len 300
  have HN3 := Lib.hid hN3
  have HN4 := Lib.hid hN4
  clear hN3 hN4
  go_enter Try.func3, Try.ntmps3
  go_wp2_with fail
  refine (awake_any w).mono ?_
  rintro e w1 ⟨rfl, hb1⟩
  have HB1 := Lib.hid hb1
  clear hb1
  go_wp2_with fail
  refine (new_own w1).mono ?_
  rintro e w2 ⟨S0, rfl, hO⟩
  have F0 := Lib.hid (JO.new hO HB1.out)
  obtain ⟨s, hs0⟩ : ∃ s, S0.s = s := ⟨_, rfl⟩
  obtain ⟨r, hr0⟩ : ∃ r, w2.heap.size = r := ⟨_, rfl⟩
  rw [hs0, hr0] at F0
  rw [hs0]
  clear hO hs0
  have L0 : Hid (∃ ls : List En, ls.length ≤ 0 ∧ JO s r w ls ls (w2.alloc (.cells #[.slice none 0 0, .slice none 0 0] 30))) := ⟨[], by simp, F0.out⟩
  go_wp2_with fail
  go_loopw [6] (fun ix wr => ∃ k : Nat, k ≤ N ∧ ix = .int .i64 (k : Int) ∧ Hid (∃ ls : List En, ls.length ≤ k ∧ JO s r w ls ls wr)) (fun i _ => N - (intOf i).toNat)
  case atStart => exact ⟨0, by omega, rfl, L0⟩
  case round =>
    clear F0 hr0 L0
    obtain ⟨k, hk, rfl, L1⟩ := hrel
    obtain ⟨ls, hls, hJ⟩ := L1.out
    have F1 := Lib.hid hJ
    have HLS := Lib.hid hls
    clear hJ L1 hls
    by_cases hlt : k < len ∧ k < 300
    · obtain ⟨hlt1, hlt2⟩ := hlt
      have hkN := HN4.out k hk hlt1 hlt2
      have hlz1 : (k : Int) < (len : Int) := by omega
      have hlz2 : (k : Int) < 300 := by omega
      have hkl : k < l.length := by rw [← HLN.out]; exact hlt1
      have hy := HO.out _ (List.getElem_mem hkl)
      obtain ⟨g, off, rfl, hg, b0, b1, b2, b3, b4, b5⟩ := Q10A.act_cells HR.out hkl
      have c0 := (F1.out.below.cell (p := ⟨g, off + k * 6, none⟩) hg).trans b0
      have c1 := (F1.out.below.cell (p := ⟨g, off + k * 6 + 1, none⟩) hg).trans b1
      have c2 := (F1.out.below.cell (p := ⟨g, off + k * 6 + 2, none⟩) hg).trans b2
      have c3 := (F1.out.below.cell (p := ⟨g, off + k * 6 + 3, none⟩) hg).trans b3
      have c4 := (F1.out.below.cell (p := ⟨g, off + k * 6 + 4, none⟩) hg).trans b4
      have c5 := (F1.out.below.cell (p := ⟨g, off + k * 6 + 5, none⟩) hg).trans b5
      clear b0 b1 b2 b3 b4 b5 hg
      have C1 := Lib.hid (same_any s r w wr ls F1.out l[k].a l[k].at_ l[k].x.1 l[k].x.2.1 l[k].x.2.2 l[k].q (ok_of hy.2) hy.1.1 hy.1.2 (by have := HLS.out; omega))
      simp only [actV] at C1
      clear hy
      generalize l[k].a = y1 at *
      generalize l[k].at_ = y2 at *
      generalize l[k].x.1 = y3 at *
      generalize l[k].x.2.1 = y4 at *
      generalize l[k].x.2.2 = y5 at *
      generalize l[k].q = y6 at *
      go_wp2_with fail
      refine (C1.out).mono ?_
      rintro e w4 ⟨rfl, hS⟩
      have HS := Lib.hid hS
      clear hS C1 c0 c1 c2 c3 c4 c5
      go_wp2
      go_roundw
      case rel =>
        obtain ⟨l2, hl2, hJ2⟩ := HS.out
        exact ⟨k + 1, by omega, by go_num, ⟨l2, by have := HLS.out; omega, hJ2⟩⟩
      case measure => simp [intOf]; omega
    · have hkk := HN3.out k hk hlt
      have hcs : (((k : Int) < (len : Int)) ∧ k < len ∧ ¬ ((k : Int) < 300) ∧ ¬ k < 300) ∨ (¬ ((k : Int) < (len : Int)) ∧ ¬ k < len) := by omega
      have hlb1 : (listR ls true).length ≤ 1000000 := by
        have h1 := listR_le ls true
        have h2 := HLS.out
        omega
      have hlb2 : (listR ls false).length ≤ 1000000 := by
        have h1 := listR_le ls false
        have h2 := HLS.out
        omega
      have HLB1 := Lib.hid hlb1
      have HLB2 := Lib.hid hlb2
      clear hlt HN3 HN4 hN1 hN2 hkk HR HO hlb1 hlb2
      rcases hcs with ⟨hp1, hp2, hp3, hp4⟩ | ⟨hp1, hp2⟩
      all_goals
        have C4 := Lib.hid (F1.out.list false)
        go_wp2_with fail
        refine (C4.out).mono ?_
        rintro e w5 ⟨A1, c1, rfl, hra, hb5⟩
        have F5 := Lib.hid (F1.out.keep hb5)
        have R5 := Lib.hid hra
        clear hb5 hra C4 F1
        have C5 := Lib.hid (F5.out.refList false)
        go_wp2_with fail
        refine (C5.out).mono ?_
        rintro e w6 ⟨A2, c2, rfl, hrb, hb6⟩
        have F6 := Lib.hid (F5.out.keep hb6)
        have C6 := Lib.hid (sameIds_any A1 A2 _ c1 c2 _ w6 (R5.out.keep hb6) hrb rfl HLB2.out)
        clear hb6 hrb C5 F5 R5
        go_wp2_with fail
        refine (C6.out).mono ?_
        rintro e w7 ⟨rfl, hb7⟩
        have F7 := Lib.hid (F6.out.keep hb7)
        clear hb7 C6 F6
        have C7 := Lib.hid (F7.out.list true)
        go_wp2_with fail
        refine (C7.out).mono ?_
        rintro e w8 ⟨A3, c3, rfl, hra, hb8⟩
        have F8 := Lib.hid (F7.out.keep hb8)
        have R8 := Lib.hid hra
        clear hb8 hra C7 F7
        have C8 := Lib.hid (F8.out.refList true)
        go_wp2_with fail
        refine (C8.out).mono ?_
        rintro e w9 ⟨A4, c4, rfl, hrb, hb9⟩
        have F9 := Lib.hid (F8.out.keep hb9)
        have C9 := Lib.hid (sameIds_any A3 A4 _ c3 c4 _ w9 (R8.out.keep hb9) hrb rfl HLB1.out)
        clear hb9 hrb C8 F8 R8
        go_wp2_with fail
        refine (C9.out).mono ?_
        rintro e w10 ⟨rfl, hb10⟩
        have F10 := Lib.hid (F9.out.keep hb10)
        clear hb10
        go_wp2
        go_ret
        exact ⟨by trivial, F10.out.below⟩

end Go.Proofs.Ytnbgnjpjdplocaa.Q10
