/-
  Layer 8, laws: WireBack.
-/
import Derived.Test.YtphnimmhjnhajaaKW10r
import Derived.Deep.Cut
import Derived.Deep.CutRange
namespace Go.Proofs.Ytphnimmhjnhajaa.W8
open Go.RowKit Go.PlainAid M8 V1
set_option linter.unusedVariables false

theorem gbox_keep {w1 w2 : World} {b : Nat} {G : GrpR} (h : GrpCells w1 b G) (hb : Below w1.heap.size w1 w2) (hlt : b < w1.heap.size) : GrpCells w2 b G := h.keep hb hlt
set_option maxRecDepth 100000 in
set_option maxHeartbeats 16000000 in
theorem lawBack (w : World) (G : GrpR) (hG : GrpAt w G) (s : List UInt8) (hz : s.length ≤ 140737488351232) : Calls Try.prog 3 #[.agg G.cells.toArray, .string (bs s)] w fun e w' => e = .returned (.bool true) ∧ Below w.heap.size w w' := by
  have hb0 : Below w.heap.size w (w.alloc (.cells G.cells.toArray 27)) := below_box _
  have hn0 := grp_box (G := G) (heap_alloc_new w (.cells G.cells.toArray 27))
  have hl0 : w.heap.size < (w.alloc (.cells G.cells.toArray 27)).heap.size := by simp
  obtain ⟨W0, hW0⟩ : ∃ W0, w.alloc (.cells G.cells.toArray 27) = W0 := ⟨_, rfl⟩
  rw [hW0] at hb0 hn0 hl0
  have hW0' : w.alloc (.cells #[.int .i64 G.t, .int .i64 G.r, .int .i64 G.n, .slice G.dA G.deps.length G.dc, .int .i64 G.ut, .int .i64 G.ur, .slice G.oA G.xs.length G.oc] 27) = W0 := hW0
  have HG0 := Lib.hid hG
  have HZ := Lib.hid hz
  have HB0 := Lib.hid hb0
  have HN0 := Lib.hid hn0
  have HL0 := Lib.hid hl0
  clear hG hz hb0 hn0 hl0
  go_enter Try.func3, Try.ntmps3
  go_wp2_with fail
  refine (awake_any _).mono ?_
  rintro e w1 ⟨rfl, hb1⟩
  obtain ⟨d0, d1, d2, d3, d4, d5, d6⟩ := HN0.out.keep hb1 HL0.out
  have HN1 := Lib.hid (HN0.out.keep hb1 HL0.out)
  have HB1 := Lib.hid (chain HB0.out hb1)
  have HL1 : Hid (w.heap.size < w1.heap.size) := Nat.lt_of_lt_of_le HL0.out hb1.size
  have HF : Hid (Calls Try.prog 7 #[.agg #[.int .i64 G.t, .int .i64 G.r, .int .i64 G.n, .slice G.dA G.deps.length G.dc, .int .i64 G.ut, .int .i64 G.ur, .slice G.oA G.xs.length G.oc]] w1 fun e w' => e = .returned (.bool (fewB G.g)) ∧ Below w1.heap.size w1 w') := few_any G w1 (HG0.out.keep HB1.out)
  clear hb1 hW0 hW0'
  go_wp2_with fail
  refine HF.out.mono ?_
  rintro e w2 ⟨rfl, hb2⟩
  obtain ⟨d0, d1, d2, d3, d4, d5, d6⟩ := HN1.out.keep hb2 HL1.out
  have HN2 := Lib.hid (HN1.out.keep hb2 HL1.out)
  have HB2 := Lib.hid (chain HB1.out hb2)
  have HL2 : Hid (w.heap.size < w2.heap.size) := Nat.lt_of_lt_of_le HL1.out hb2.size
  obtain ⟨few, hfew⟩ : ∃ few, fewB G.g = few := ⟨_, rfl⟩
  rw [hfew]
  have HFW := Lib.hid hfew
  clear hb2 hfew HF
  go_upto_if 18 with fail
  go_cut [] from 6 to 38 (fun wx => Below w.heap.size w wx)
  case first =>
    cases few with
    | false =>
      go_wp2
      go_meet
      case rel => exact HB2.out
    | true =>
      have HFit := Lib.hid (few_fit HFW.out)
      have HG2 := Lib.hid (HG0.out.keep HB2.out)
      cases hc : check G.g with
      | false =>
        have HE : Hid (Calls Try.prog 8 #[.agg #[.int .i64 G.t, .int .i64 G.r, .int .i64 G.n, .slice G.dA G.deps.length G.dc, .int .i64 G.ut, .int .i64 G.ur, .slice G.oA G.xs.length G.oc]] w2 fun e w' => e = .returned (.tuple #[.string ⟨#[]⟩, .int .i64 80]) ∧ Below w2.heap.size w2 w') := enc_no G w2 HG2.out HFit.out hc
        clear hc
        go_wp2_with fail
        refine HE.out.mono ?_
        rintro e w3 ⟨rfl, hb3⟩
        have HB3 := Lib.hid (chain HB2.out hb3)
        clear hb3 d0 d1 d2 d3 d4 d5 d6
        go_wp2
        go_meet
        case rel => exact HB3.out
      | true =>
        have hlen := spell_len HFW.out hc (fit_deps HG2.out)
        have hdec := decode_spell hc (fit_deps HG2.out)
        obtain ⟨t, ht⟩ : ∃ t, spell G.g = t := ⟨_, rfl⟩
        rw [ht] at hlen hdec
        have HE : Hid (Calls Try.prog 8 #[.agg #[.int .i64 G.t, .int .i64 G.r, .int .i64 G.n, .slice G.dA G.deps.length G.dc, .int .i64 G.ut, .int .i64 G.ur, .slice G.oA G.xs.length G.oc]] w2 fun e w' => e = .returned (.tuple #[.string (bs t), .int .i64 0]) ∧ Below w2.heap.size w2 w') := enc_ok G w2 HG2.out HFit.out hc ht
        have HLEN := Lib.hid hlen
        have HDEC := Lib.hid hdec
        clear hc hlen hdec ht
        go_wp2_with fail
        refine HE.out.mono ?_
        rintro e w3 ⟨rfl, hb3⟩
        have HB3 := Lib.hid (chain HB2.out hb3)
        have HN3 := Lib.hid (HN2.out.keep hb3 HL2.out)
        have HL3 : Hid (w.heap.size < w3.heap.size) := Nat.lt_of_lt_of_le HL2.out hb3.size
        clear hb3 d0 d1 d2 d3 d4 d5 d6
        go_wp2_with fail
        refine (dec_ok HLEN.out HDEC.out _).mono ?_
        rintro e w4 ⟨D, rfl, hD, hDf, hDg, hb4⟩
        have hb5 := chain hb4 (below_box (.cells D.cells.toArray 27))
        have hB5 := chain HB3.out hb5
        have hN5 := HN3.out.keep hb5 HL3.out
        have hL5 := Nat.lt_of_lt_of_le HL3.out hb5.size
        have hD5 := hD.keep (below_box (.cells D.cells.toArray 27))
        have hM5 := grp_box (G := D) (heap_alloc_new w4 (.cells D.cells.toArray 27))
        have hS5 : w4.heap.size < (w4.alloc (.cells D.cells.toArray 27)).heap.size := by simp
        obtain ⟨W5, hW5⟩ : ∃ W5, w4.alloc (.cells D.cells.toArray 27) = W5 := ⟨_, rfl⟩
        rw [hW5] at hB5 hN5 hL5 hD5 hM5 hS5
        have HW5 := Lib.hid hW5
        have HB5 := Lib.hid hB5
        have HN5 := Lib.hid hN5
        have HL5 := Lib.hid hL5
        have HD5 := Lib.hid hD5
        have HM5 := Lib.hid hM5
        have HS5 := Lib.hid hS5
        have HDG := Lib.hid hDg
        have HG5 := Lib.hid (HG0.out.keep hB5)
        obtain ⟨d0, d1, d2, d3, d4, d5, d6⟩ := hN5
        obtain ⟨c0, c1, c2, c3, c4, c5, c6⟩ := hM5
        clear hD hDf hDg hb4 hb5 hB5 hL5 hD5 hS5 hW5
        go_wp2_with ((with_reducible refine wpList_store_fresh ?_ 27 (.tmp 8) (.tmp 29) ?_ _ D.cells.toArray ?_ ?_ ?_ ?_ (gcells_one D) ?_); exact rfl; exact rfl; exact rfl; exact rfl; exact (zero_of_info info_grp).2; exact rfl; rw [HW5.out])
        refine (sameG_any G D _ HG5.out HD5.out).mono ?_
        rintro e w7 ⟨b, rfl, hbt, hb7⟩
        have hbT : b = true := hbt.2 HDG.out.symm
        subst hbT
        have HBZ := Lib.hid (chain HB5.out hb7)
        clear hbt hb7 d0 d1 d2 d3 d4 d5 d6 c0 c1 c2 c3 c4 c5 c6
        go_wp2
        go_meet
        case rel => exact HBZ.out
  case rest =>
    have HC := Lib.hid hcut
    clear hcut d0 d1 d2 d3 d4 d5 d6 HN0 HN1 HN2 HL0 HL1 HL2 HB0 HB1 HB2 HFW
    by_cases hlt : (5000 : Int) < ((bs s).size : Int)
    · go_wp2
      go_ret
      exact ⟨rfl, HC.out⟩
    have hzs : s.length ≤ 1000000 := by rw [bs_size] at hlt; omega
    have HZS := Lib.hid hzs
    have hlt2 : decide ((5000 : Int) < ((bs s).size : Int)) = false := decide_eq_false hlt
    clear hzs
    cases hd : M8.decode s with
    | none =>
      have HD := Lib.hid hd
      clear hd
      go_wp2_with fail
      refine (dec_no HZS.out HD.out _).mono ?_
      rintro e w4 ⟨rfl, hb4⟩
      have hb5 := chain hb4 (below_box (.cells zeroG.cells.toArray 27))
      have hB5 := chain HC.out hb5
      have hM5 := grp_box (G := zeroG) (heap_alloc_new w4 (.cells zeroG.cells.toArray 27))
      have hS5 : w4.heap.size < (w4.alloc (.cells zeroG.cells.toArray 27)).heap.size := by simp
      obtain ⟨W5, hW5⟩ : ∃ W5, w4.alloc (.cells zeroG.cells.toArray 27) = W5 := ⟨_, rfl⟩
      rw [hW5] at hB5 hM5 hS5
      have HW5 := Lib.hid hW5
      have HB5 := Lib.hid hB5
      obtain ⟨c0, c1, c2, c3, c4, c5, c6⟩ := hM5
      clear hb4 hb5 hB5 hS5 hW5 hlt hlt2
      go_wp2_with ((with_reducible refine wpList_store_fresh ?_ 27 (.tmp 10) (.tmp 46) ?_ _ zeroG.cells.toArray ?_ ?_ ?_ ?_ (gcells_one zeroG) ?_); exact rfl; exact rfl; exact rfl; exact rfl; exact (zero_of_info info_grp).2; exact rfl; rw [HW5.out])
      refine (sameG_any zeroG zeroG _ (zeroG_at _) (zeroG_at _)).mono ?_
      rintro e w7 ⟨b, rfl, hbt, hb7⟩
      have hbT : b = true := hbt.2 rfl
      subst hbT
      have HBZ := Lib.hid (chain HB5.out hb7)
      clear hbt hb7 c0 c1 c2 c3 c4 c5 c6
      go_wp2
      go_ret
      exact ⟨rfl, HBZ.out⟩
    | some g =>
      obtain ⟨hsp, hck, hgd⟩ := decode_inv hd
      have HD := Lib.hid hd
      have HSP := Lib.hid hsp
      have HCK := Lib.hid hck
      clear hd hsp hck hgd
      go_wp2_with fail
      refine (dec_ok HZS.out HD.out _).mono ?_
      rintro e w4 ⟨D, rfl, hD, hDf, hDg, hb4⟩
      have hb5 := chain hb4 (below_box (.cells D.cells.toArray 27))
      have hB5 := chain HC.out hb5
      have hD5 := hD.keep (below_box (.cells D.cells.toArray 27))
      have hM5 := grp_box (G := D) (heap_alloc_new w4 (.cells D.cells.toArray 27))
      have hS5 : w4.heap.size < (w4.alloc (.cells D.cells.toArray 27)).heap.size := by simp
      obtain ⟨W5, hW5⟩ : ∃ W5, w4.alloc (.cells D.cells.toArray 27) = W5 := ⟨_, rfl⟩
      rw [hW5] at hB5 hD5 hM5 hS5
      have HE : Hid (Calls Try.prog 8 #[.agg #[.int .i64 D.t, .int .i64 D.r, .int .i64 D.n, .slice D.dA D.deps.length D.dc, .int .i64 D.ut, .int .i64 D.ur, .slice D.oA D.xs.length D.oc]] W5 fun e w' => e = .returned (.tuple #[.string (bs s), .int .i64 0]) ∧ Below W5.heap.size W5 w') := enc_ok D W5 hD5 hDf (by rw [hDg]; exact HCK.out) (by rw [hDg]; exact HSP.out.symm)
      have HCH : Hid (∀ a, GrpAt a D → Calls Try.prog 11 #[.agg #[.int .i64 D.t, .int .i64 D.r, .int .i64 D.n, .slice D.dA D.deps.length D.dc, .int .i64 D.ut, .int .i64 D.ur, .slice D.oA D.xs.length D.oc]] a fun e w' => e = .returned (.int .i64 0) ∧ Below a.heap.size a w') := fun a ha => by
        have h := check_any D a ha (by have := hDf.deps; omega) (fun hl x hx => by have := (hDf.ops hl x hx).2; omega)
        rw [hDg, if_pos HCK.out] at h
        exact h
      have HW5 := Lib.hid hW5
      have HB5 := Lib.hid hB5
      have HD5 := Lib.hid hD5
      have HM5 := Lib.hid hM5
      have HS5 := Lib.hid hS5
      obtain ⟨c0, c1, c2, c3, c4, c5, c6⟩ := hM5
      clear hD hDf hDg hb4 hb5 hB5 hD5 hS5 hW5 hlt hlt2
      go_wp2_with (first | ((with_reducible refine wpList_store_fresh ?_ 27 (.tmp 10) (.tmp 46) ?_ _ D.cells.toArray ?_ ?_ ?_ ?_ (gcells_one D) ?_); exact rfl; exact rfl; exact rfl; exact rfl; exact (zero_of_info info_grp).2; exact rfl; rw [HW5.out]))
      refine HE.out.mono ?_
      rintro e w6 ⟨rfl, hb6⟩
      clear c0 c1 c2 c3 c4 c5 c6
      have HB6 := Lib.hid (chain HB5.out hb6)
      have HD6 := Lib.hid (HD5.out.keep hb6)
      have HM6 := Lib.hid (HM5.out.keep hb6 HS5.out)
      have HS6 : Hid (w4.heap.size < w6.heap.size) := Nat.lt_of_lt_of_le HS5.out hb6.size
      obtain ⟨c0, c1, c2, c3, c4, c5, c6⟩ := HM6.out
      clear hb6 HE
      go_wp2_with fail
      refine (HCH.out _ HD6.out).mono ?_
      rintro e w7 ⟨rfl, hb7⟩
      have HBZ := Lib.hid (chain HB6.out hb7)
      clear hb7 c0 c1 c2 c3 c4 c5 c6
      go_wp2
      go_ret
      exact ⟨rfl, HBZ.out⟩

theorem lawBackB (w : World) (G : GrpR) (hG : GrpAt w G) (a : ByteArray) (hz : a.size ≤ 140737488351232) : Calls Try.prog 3 #[G.val, .string a] w fun e w' => e = .returned (.bool true) ∧ Below w.heap.size w w' := lawBack w G hG a.data.toList hz

end Go.Proofs.Ytphnimmhjnhajaa.W8

