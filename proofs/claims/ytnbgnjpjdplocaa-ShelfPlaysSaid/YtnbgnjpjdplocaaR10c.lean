/-
  Layer 10, the document's shelf: Show, List; lists that are the same.
-/
import Derived.Test.YtnbgnjpjdplocaaR10b
namespace Go.Proofs.Ytnbgnjpjdplocaa.Q10
open Go.RowKit Go.PlainAid
set_option linter.unusedVariables false
set_option linter.unusedSimpArgs false

theorem own_set1 {w : World} {e g n c : Nat} {xs : List Value} (h : w.ownsRow 0 e 1 (.slice (some ⟨g, 0, none⟩) n c) n xs) (k : Nat) (v : Value) :
    (w.setCell ⟨g, k, none⟩ v).ownsRow 0 e 1 (.slice (some ⟨g, 0, none⟩) n c) n (xs.set k v) := by
  refine ⟨by rw [List.length_set]; exact h.1, .inr ?_⟩
  rcases h.2 with ⟨h0, _⟩ | ⟨g', cap, cur, e, hb, hh, h1, h2, h3, h4⟩
  · cases h0
  · cases e
    refine ⟨g, c, cur.setIfInBounds k v, rfl, hb, ?_, h1, h2, by simpa using h3, ?_⟩
    · rw [setCell_eq_setRow w g _ cur _ (0, 0) _ hh]
      exact setRow_heap w g cur _ _ (0, 0) hh
    · rw [Array.toList_setIfInBounds, ← h4, List.take_set]

def showE (l : List En) (x : Nm) : Int := if x ∈ l.map Prod.fst then 0 else 111

set_option maxRecDepth 100000 in
set_option maxHeartbeats 2000000 in
theorem refShow_any (R : Rf) (l : List En) (x : Nm) (b : Bool) (w : World) (h : RefAt R l w) (hnd : (l.map Prod.fst).Nodup) :
    Calls Try.prog 20 #[.pointer (some ⟨R.r, 0, none⟩), nmV x, .bool b] w fun e w' =>
      e = .returned (.int .i64 (showE l x)) ∧ RefAt R (showL l x b) w' ∧ Turn (fun k => k ∈ R.foot) w w' := by
  obtain ⟨t, r, i⟩ := x
  have hfew := h.few
  have hba : Below w.heap.size w (w.alloc (.cells #[.int .i64 t, .int .i64 r, .int .i64 i] 35)) := (Below.refl _ _).alloc (Nat.le_refl _) _
  have HC := Lib.hid (refAt_any R l (t, r, i) _ (h.keep hba))
  simp only [nmV] at HC
  have HB := Lib.hid hba
  have H := Lib.hid h
  clear hba h
  show Calls Try.prog 20 #[.pointer (some ⟨R.r, 0, none⟩), .agg #[.int .i64 t, .int .i64 r, .int .i64 i], .bool b] w _
  go_enter Try.func20, Try.ntmps20
  go_wp2_with fail
  refine (HC.out).mono ?_
  rintro e w1 ⟨ha, hb⟩
  have hb1 : Below w.heap.size w w1 := HB.out.trans (hb.mono HB.out.size)
  have HB1 := Lib.hid hb1
  rcases ha with ⟨hn, rfl⟩ | ⟨j, hj, hx, rfl⟩
  · have HE : Hid (showE l (t, r, i) = 111 ∧ showL l (t, r, i) b = l) := ⟨if_neg hn, showL_none hn b⟩
    clear hn hb hb1
    go_wp2
    go_ret
    rw [HE.out.1, HE.out.2]
    exact ⟨by trivial, H.out.keep HB1.out, Turn.of_below HB1.out _⟩
  · have hm : (t, r, i) ∈ l.map Prod.fst := by rw [← hx]; exact List.mem_map_of_mem (List.getElem_mem hj)
    have HE : Hid (showE l (t, r, i) = 0 ∧ showL l (t, r, i) b = l.set j (l[j].1, b)) := ⟨if_pos hm, showL_set hnd hj hx b⟩
    have h1 := H.out.keep hb1
    obtain ⟨A, c, B, d, c0, c1, hr, hr2, hiv, hsv⟩ := h1.facts
    obtain ⟨g, cap, cur, hv, hh, hnc, hcm, hcs, htk⟩ := own_mid h1.seen (by omega)
    rw [hsv] at hv
    injection hv with hv1 hv2 hv3
    subst hv1 hv3
    have hlz : (j : Int) < (l.length : Int) := by omega
    have y0 := cells_at hh j
    have hjc : j < cur.size := by rw [hcs]; omega
    rw [Array.getElem?_eq_getElem hjc] at y0
    have f0 := frozen_at hh j
    have hfin : Hid (RefAt R (l.set j (l[j].1, b)) (w1.setCell ⟨g, j, none⟩ (.bool b)) ∧ Turn (fun k => k ∈ R.foot) w (w1.setCell ⟨g, j, none⟩ (.bool b))) := by
      have hgf : g ∈ obs R.sv := mem_obs.2 (by rw [hsv]; rfl)
      have hap := h1.apart
      rw [Rf.foot, List.nodup_cons, List.nodup_append] at hap
      have hgr : R.r ≠ g := fun e => hap.1 (by rw [e]; simp [hgf])
      have ht : Turn (fun k => k = g) w1 (w1.setCell ⟨g, j, none⟩ (.bool b)) := Turn.of_grown (setCell_grown w1 g j _) (fun k hk => by cases hk; rfl)
      refine ⟨⟨(ht.block R.r (heap_lt h1.box) hgr).trans h1.box, ?_, ?_, h1.apart, by rw [List.length_set]; exact h1.few, fun e => ?_⟩, ?_⟩
      · have e1 : (l.set j (l[j].1, b)).map Prod.fst = l.map Prod.fst := map_same (L := l) hj Prod.fst rfl
        rw [e1, List.length_set]
        exact own_turn h1.ids ht (fun k hk e => hap.2.2.2 k (mem_obs.2 hk) k (by rw [e]; exact hgf) rfl)
      · have e1 : bls ((l.set j (l[j].1, b)).map Prod.snd) = (bls (l.map Prod.snd)).set j (.bool b) := by simp [bls, List.map_set]
        rw [e1, List.length_set, hsv]
        have ho := h1.seen
        rw [hsv] at ho
        exact own_set1 ho j (.bool b)
      · exfalso
        have := congrArg List.length e
        rw [List.length_set] at this
        simp at this
        rw [this] at hj
        simp at hj
      · refine (Turn.of_below hb1 (fun k => k ∈ R.foot)).trans (ht.mono (G := fun k => k ∈ R.foot) (fun k _ hk => ?_)) (fun i _ h => h)
        have hk' : k = g := hk
        rw [hk']
        simp [Rf.foot, hgf]
    clear hx hb hb1 hm h1 hr hr2 hiv hsv hh hcs htk hv2
    go_wp2
    go_ret
    rw [HE.out.1, HE.out.2]
    exact ⟨by trivial, hfin.out⟩

set_option maxRecDepth 100000 in
set_option maxHeartbeats 2000000 in
theorem refList_any (R : Rf) (l : List En) (q : Bool) (w : World) (h : RefAt R l w) : Calls Try.prog 11 #[.pointer (some ⟨R.r, 0, none⟩), .bool q] w fun e w' =>
    ∃ A c, e = .returned (.slice A (listR l q).length c) ∧ Rd w' A (nms (listR l q)) ∧ Below w.heap.size w w' := by
  obtain ⟨i0, hi, hz0, hz1, hz2⟩ := info_parts infoId
  obtain ⟨A, c, B, d, c0, c1, hr, hr2, -, -⟩ := h.facts
  have hrl := heap_lt h.box
  have hfew := h.few
  have HA := Lib.hid hr
  have HBS := Lib.hid hr2
  have HC := Lib.hid (And.intro c0 c1)
  clear h hr hr2 c0 c1
  go_enter Try.func11, Try.ntmps11
  go_wp2
  go_loopw [5, 6] (fun vs ix wr => ∃ m : Nat, m ≤ l.length ∧ ix = .int .i64 (m : Int) ∧ Hid (wr.ownsRow w.heap.size 35 3 vs (listR (l.take m) q).length (nms (listR (l.take m) q))) ∧ Hid (Below w.heap.size w wr)) (fun _ i _ => l.length - (intOf i).toNat)
  case atStart => exact ⟨0, by omega, rfl, World.ownsRow_nil _ _ _ _, Below.refl _ _⟩
  case round =>
    obtain ⟨m, hm, rfl, HO, HB⟩ := hrel
    have c0 := (HB.out.cell (p := ⟨R.r, 0, none⟩) hrl).trans HC.out.1
    have c1 := (HB.out.cell (p := ⟨R.r, 1, none⟩) hrl).trans HC.out.2
    by_cases hlt : m < l.length
    · obtain ⟨b3, off3, rfl, hb3, x0, x1, x2⟩ := id_at (HA.out.keep HB.out) hlt
      obtain ⟨b4, off4, rfl, hb4, x3⟩ := bl_at (HBS.out.keep HB.out) hlt
      have hsz := HB.out.size
      have hlz : (m : Int) < (l.length : Int) := by omega
      have hLE := listR_le (l.take m) q
      rw [List.length_take] at hLE
      have hsn := listR_snoc hlt q
      have hnm : nmC l[m].1 = [.int .i64 l[m].1.1, .int .i64 l[m].1.2.1, .int .i64 l[m].1.2.2] := rfl
      have HS := Lib.hid (And.intro hsn hnm)
      clear hsn hnm
      have HO2 := Lib.hid (HO.out.alloc (.cells #[.int .i64 l[m].1.1, .int .i64 l[m].1.2.1, .int .i64 l[m].1.2.2] 35))
      have HN := Lib.hid (cell_three_new wr (.int .i64 l[m].1.1) (.int .i64 l[m].1.2.1) (.int .i64 l[m].1.2.2) 35)
      generalize l[m].1.1 = y1 at *
      generalize l[m].1.2.1 = y2 at *
      generalize l[m].1.2.2 = y3 at *
      have hN1 : ∀ u ∈ [Value.int .i64 y1, .int .i64 y2, .int .i64 y3], u.oneCell' = true := by
        intro u hu
        simp at hu
        rcases hu with rfl | rfl | rfl <;> rfl
      cases hs : l[m].2 <;> cases q
      all_goals (rw [hs] at HS x3; clear hs)
      case false.true =>
        go_wp2
        go_roundw
        case rel => exact ⟨m + 1, by omega, by go_num, by rw [HS.out.1]; simpa using HO, HB⟩
        case measure => simp [intOf]; omega
      all_goals
        go_wp2_with (at_builtin; refine wpList_append_own _ rfl _ _ 27 rfl w.heap.size 35 i0 (.agg #[.int .i64 0, .int .i64 0, .int .i64 0]) 3 24 Try.underlying27 hi hz0 hz1 hz2 rfl (by decide) _ _ _ rfl HO2.out ⟨wr.heap.size, 0, none⟩ 1 1 [.int .i64 y1, .int .i64 y2, .int .i64 y3] rfl rfl HN.out hN1 (by unfold maxLen; omega) (by omega) (by simp; omega) ?_; intro v' w1 hown1 hg1 hnil)
        go_roundw
        case rel =>
          refine ⟨m + 1, by omega, by go_num, ?_, ?_⟩
          · show w1.ownsRow _ _ _ _ _ _
            rw [HS.out.1]
            simp only [Bool.or_false, Bool.or_true, Bool.false_or, Bool.true_or, Bool.not_false, Bool.not_true, if_true]
            rw [nms_snoc, List.length_append, HS.out.2]
            exact hown1
          · exact (HB.out.alloc (by omega) _).grown hg1 (by simp; omega) (fun g hg => (HO2.out.lt g hg).1)
        case measure => simp [intOf]; omega
    · obtain rfl : m = l.length := by omega
      rw [List.take_length] at HO
      obtain ⟨A3, c3, rfl, hr3, -⟩ := own_rd (own_zero HO.out)
      have HR3 := Lib.hid hr3
      clear hr3
      go_wp2
      go_ret
      exact ⟨A3, c3, rfl, HR3.out, HB.out⟩

set_option maxRecDepth 100000 in
set_option maxHeartbeats 1000000 in
theorem sameIds_any (A B : Option Addr) (n c d : Nat) (l : List Nm) (w : World) (ha : Rd w A (nms l)) (hb : Rd w B (nms l)) (hn : l.length = n) (hle : n ≤ 1000000) :
    Calls Try.prog 9 #[.slice A n c, .slice B n d] w fun e w' => e = .returned (.bool true) ∧ Below w.heap.size w w' := by
  subst hn
  have HA := Lib.hid ha
  have HB := Lib.hid hb
  clear ha hb
  go_enter Try.func9, Try.ntmps9
  go_wp2
  go_loopw [5] (fun i wr => ∃ k : Nat, k ≤ l.length ∧ i = .int .i64 (k : Int) ∧ Below w.heap.size w wr) (fun i _ => l.length - (intOf i).toNat)
  case atStart => exact ⟨0, by omega, rfl, Below.refl _ _⟩
  case round =>
    obtain ⟨k, hk, rfl, hbw⟩ := hrel
    by_cases hlt : k < l.length
    · obtain ⟨b, off, rfl, hb, x0, x1, x2⟩ := nm_cells (HA.out.keep hbw) hlt
      obtain ⟨b', off', rfl, hb', z0, z1, z2⟩ := nm_cells (HB.out.keep hbw) hlt
      generalize l[k].1 = y1 at *
      generalize l[k].2.1 = y2 at *
      generalize l[k].2.2 = y3 at *
      have hNe : ∀ W : World, (binOp .neq 35 (.agg #[.int .i64 y1, .int .i64 y2, .int .i64 y3]) (.agg #[.int .i64 y1, .int .i64 y2, .int .i64 y3])).run Try.prog W = .ok (.bool false) W := fun W => by rw [nm_neq]; simp
      go_wp2
      go_quiet (fail)
      go_wp2
      go_roundw
      case rel => exact ⟨k + 1, by omega, by go_num, below_drewN hbw nq⟩
      case measure => simp [intOf]; omega
    · obtain rfl : k = l.length := by omega
      go_wp2
      go_ret
      exact ⟨rfl, hbw⟩

end Go.Proofs.Ytnbgnjpjdplocaa.Q10
