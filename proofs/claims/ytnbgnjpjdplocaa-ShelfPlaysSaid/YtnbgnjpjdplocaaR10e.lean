/-
  Layer 10, the document's shelf: Put, walked.
-/
import Derived.Test.YtnbgnjpjdplocaaR10d
namespace Go.Proofs.Ytnbgnjpjdplocaa.Q10
open Go.RowKit Go.PlainAid
set_option linter.unusedVariables false
set_option linter.unusedSimpArgs false

/-- What a call leaves of the document's shelf. -/
def LeftR (R : Rf) (l : List En) (w w' : World) : Prop := ∃ R', R'.r = R.r ∧ RefAt R' l w' ∧ Turn (fun k => k ∈ R.foot) w w' ∧ ∀ k ∈ R'.foot, k ∈ R.foot ∨ w.heap.size ≤ k
theorem LeftR.same {R : Rf} {l : List En} {w w' : World} (h : RefAt R l w) (hb : Below w.heap.size w w') : LeftR R l w w' :=
  ⟨R, rfl, h.keep hb, Turn.of_below hb _, fun k hk => .inl hk⟩

set_option maxRecDepth 100000 in
set_option maxHeartbeats 4000000 in
theorem refPut_any (R : Rf) (l : List En) (a : Int) (x : Nm) (sn : Bool) (h1 : -9223372036854775808 ≤ a) (h2 : a ≤ 9223372036854775807) (w : World) (h : RefAt R l w) (hfew : l.length + 1 ≤ 100000) :
    Calls Try.prog 14 #[.pointer (some ⟨R.r, 0, none⟩), .int .i64 a, nmV x, .bool sn] w fun e w' =>
      e = .returned (.int .i64 (putE l a x)) ∧ LeftR R (putL l a (x, sn)) w w' := by
  obtain ⟨t, r, i⟩ := x
  obtain ⟨i0, hi0, hz0, hz1, hz2⟩ := info_parts infoId
  obtain ⟨j0, hj0, hy0, hy1, hy2⟩ := info_parts infoBool
  have hrl := heap_lt h.box
  have hne : R.r ≠ w.heap.size := by omega
  have hba : Below w.heap.size w (w.alloc (.cells #[.int .i64 t, .int .i64 r, .int .i64 i] 35)) := (Below.refl _ _).alloc (Nat.le_refl _) _
  have hN := heap_alloc_new w (.cells #[.int .i64 t, .int .i64 r, .int .i64 i] 35)
  obtain ⟨w1, hw1⟩ : ∃ w1, w1 = w.alloc (.cells #[.int .i64 t, .int .i64 r, .int .i64 i] 35) := ⟨_, rfl⟩
  have HA : Hid (w.alloc (.cells #[.int .i64 t, .int .i64 r, .int .i64 i] 35) = w1) := hw1.symm
  rw [← hw1] at hba hN
  have hS1 := h.keep hba
  obtain ⟨A, c, B, d, c0, c1, hr, hr2, hiv, hsv⟩ := hS1.facts
  have a0 := cells_at hN 0
  have a1 := cells_at hN 1
  have a2 := cells_at hN 2
  have CA := Lib.hid (refAt_any R l (t, r, i) w1 hS1)
  simp only [nmV] at CA
  have H := Lib.hid h
  have H1 := Lib.hid hS1
  have HB := Lib.hid hba
  have HN := Lib.hid hN
  have HV := Lib.hid (And.intro hiv hsv)
  clear hw1 h hba hr hr2 hiv hsv hN hS1
  show Calls Try.prog 14 #[.pointer (some ⟨R.r, 0, none⟩), .int .i64 a, .agg #[.int .i64 t, .int .i64 r, .int .i64 i], .bool sn] w _
  by_cases hbad : a < 0 ∨ (l.length : Int) < a
  · have HE : Hid (putE l a (t, r, i) = 100 ∧ putL l a ((t, r, i), sn) = l) := ⟨if_pos hbad, if_pos hbad⟩
    by_cases hneg : a < 0
    · clear hbad
      go_enter Try.func14, Try.ntmps14
      go_upto_region 1 with fail
      rw [HA.out]
      go_wp2
      go_ret
      rw [HE.out.1, HE.out.2]
      exact ⟨by trivial, LeftR.same H.out HB.out⟩
    · have hbig : (l.length : Int) < a := hbad.resolve_left hneg
      clear hbad
      go_enter Try.func14, Try.ntmps14
      go_upto_region 1 with fail
      rw [HA.out]
      go_wp2
      go_ret
      rw [HE.out.1, HE.out.2]
      exact ⟨by trivial, LeftR.same H.out HB.out⟩
  · have hneg : ¬ a < 0 := fun h => hbad (.inl h)
    have hbig : ¬ (l.length : Int) < a := fun h => hbad (.inr h)
    obtain ⟨k, rfl⟩ : ∃ k : Nat, a = k := ⟨a.toNat, by omega⟩
    have hk : k ≤ l.length := by omega
    have HBD := Lib.hid hbad
    clear hbad
    go_enter Try.func14, Try.ntmps14
    go_upto_region 1 with fail
    rw [HA.out]
    go_wp2_with fail
    refine (CA.out).mono ?_
    rintro e w2 ⟨hat, hb2⟩
    rcases hat with ⟨hn, rfl⟩ | ⟨j, hj, hx, rfl⟩
    · have HE : Hid (putE l (k : Int) (t, r, i) = 0 ∧ putL l (k : Int) ((t, r, i), sn) = insEn l k ((t, r, i), sn)) := by
        unfold putE putL
        rw [if_neg HBD.out, if_neg HBD.out, if_neg hn, if_neg hn, Int.toNat_natCast]
        exact ⟨rfl, rfl⟩
      have hnl : ∀ (h0 : l.length = 0), l = [] := fun h0 => List.eq_nil_of_length_eq_zero h0
      have h2 := H1.out.keep hb2
      have hbw : Below w.heap.size w w2 := HB.out.trans (hb2.mono HB.out.size)
      have hI := h2.ids
      rw [HV.out.1] at hI
      have hS := h2.seen
      rw [HV.out.2] at hS
      have hsA := own_src hI (fun h0 => by have := (h2.nils (hnl h0)).1; rw [HV.out.1] at this; injection this with q1 q2 q3; exact ⟨q1, q3⟩)
      have hsB := own_src hS (fun h0 => by have := (h2.nils (hnl h0)).2; rw [HV.out.2] at this; injection this with q1 q2 q3; exact ⟨q1, q3⟩)
      obtain ⟨X1, e1, f1, s1⟩ := ids_to hsA (by simp) hk
      obtain ⟨X2, e2, f2, s2⟩ := ids_fr hsA (by simp) hk
      obtain ⟨Y1, g1, u1, v1⟩ := bls_to hsB (by simp) hk
      obtain ⟨Y2, g2, u2, v2⟩ := bls_fr hsB (by simp) hk
      have hN2 := (hb2.block w.heap.size (heap_lt HN.out)).trans HN.out
      have hbx := heap_lt hN2
      have c0' := (hb2.cell (p := ⟨R.r, 0, none⟩) (World.block_lt_of_cell? w1 _ c0)).trans c0
      have c1' := (hb2.cell (p := ⟨R.r, 1, none⟩) (World.block_lt_of_cell? w1 _ c1)).trans c1
      have hrl2 := World.block_lt_of_cell? w2 _ c0'
      have S1 := Lib.hid s1
      have S2 := Lib.hid s2
      have V1 := Lib.hid v1
      have V2 := Lib.hid v2
      have H2 := Lib.hid h2
      have HBW := Lib.hid hbw
      have HN2 := Lib.hid hN2
      have HC := Lib.hid (And.intro c0' c1')
      have f0 := frozen_at h2.box 0
      have f00 := frozen_at h2.box 1
      have HFZ := Lib.hid h2.box
      clear c0 c1 a0 a1 a2 hI hS hsA hsB s1 s2 v1 v2 h2 hbw hb2 hN2 hn CA hnl f0 f00
      have c0 := HC.out.1
      have hk2 : k + (l.length - k) = l.length := by omega
      have O0 := Lib.hid (World.ownsRow_nil w2 w2.heap.size 35 3)
      have c1 := HC.out.2
      have a0 := cells_at HN2.out 0
      have a1 := cells_at HN2.out 1
      have a2 := cells_at HN2.out 2
      clear c0' c1'
      go_wp2_with (first
        | (at_builtin; refine wpList_append_src rfl _ _ 27 rfl w2.heap.size 35 i0 (.agg #[.int .i64 0, .int .i64 0, .int .i64 0]) 3 24 Try.underlying27 hi0 hz0 hz1 hz2 rfl (by decide) (.slice none 0 0) 0 [] rfl O0.out X1 k e1 _ rfl S1.out (nms_one _) (by unfold maxLen; omega) (by omega) (Nat.le_refl _) ?_; intro q3 w3 hown3 hg3 hloc3; rw [Nat.zero_add, List.nil_append] at hown3; have hb3 : Below w2.heap.size w2 w3 := (Below.refl _ _).grown hg3 (Nat.le_refl _) (fun k hk => by cases hk); obtain ⟨A3, c3, rfl, -⟩ := own_rd (own_zero hown3); have HB3 := Lib.hid hb3; have O3 := Lib.hid (And.intro hown3 (And.intro hg3 hloc3)); clear hb3 hown3 hg3 hloc3; replace a0 := cells_at ((HB3.out.block w.heap.size hbx).trans HN2.out) 0; replace a1 := cells_at ((HB3.out.block w.heap.size hbx).trans HN2.out) 1; replace a2 := cells_at ((HB3.out.block w.heap.size hbx).trans HN2.out) 2)
        | (at_builtin; refine wpList_append_src rfl _ _ 27 rfl w2.heap.size 35 i0 (.agg #[.int .i64 0, .int .i64 0, .int .i64 0]) 3 24 Try.underlying27 hi0 hz0 hz1 hz2 rfl (by decide) (.slice A3 k c3) k _ rfl (O3.out.1.alloc _) (some ⟨w3.heap.size, 0, none⟩) 1 1 [.int .i64 t, .int .i64 r, .int .i64 i] rfl (src3 w3 t r i) (nmC_one (t, r, i)) (by unfold maxLen; omega) (by omega) (base_up HB3.out _) ?_; intro q4 w4 hown4 hg4 hloc4; have hb4 : Below w2.heap.size w2 w4 := (HB3.out.alloc HB3.out.size _).grown hg4 (base_up HB3.out _) (fun k hk => (O3.out.1.lt k hk).1); obtain ⟨A4, c4, rfl, -⟩ := own_rd (own_zero hown4); have HB4 := Lib.hid hb4; have O4 := Lib.hid (And.intro hown4 (And.intro hg4 hloc4)); clear hb4 hown4 hg4 hloc4; replace c0 := (HB4.out.cell (p := ⟨R.r, 0, none⟩) hrl2).trans HC.out.1; replace c1 := (HB4.out.cell (p := ⟨R.r, 1, none⟩) hrl2).trans HC.out.2)
        | (at_builtin; refine wpList_append_src rfl _ _ 27 rfl w2.heap.size 35 i0 (.agg #[.int .i64 0, .int .i64 0, .int .i64 0]) 3 24 Try.underlying27 hi0 hz0 hz1 hz2 rfl (by decide) (.slice A4 (k + 1) c4) (k + 1) _ rfl O4.out.1 X2 (l.length - k) e2 _ rfl (S2.out.keep HB4.out (Nat.le_refl _)) (nms_one _) (by unfold maxLen; omega) (by omega) HB4.out.size ?_; intro q5 w5 hown5 hg5 hloc5; have hb5 : Below w2.heap.size w2 w5 := HB4.out.grown hg5 HB4.out.size (fun k hk => (O4.out.1.lt k hk).1); obtain ⟨A5, c5, rfl, -⟩ := own_rd (own_zero hown5); have HB5 := Lib.hid hb5; have O5 := Lib.hid (And.intro hown5 (And.intro hg5 hloc5)); clear hb5 hown5 hg5 hloc5; replace c0 := (HB5.out.cell (p := ⟨R.r, 0, none⟩) hrl2).trans HC.out.1; replace c1 := (HB5.out.cell (p := ⟨R.r, 1, none⟩) hrl2).trans HC.out.2)
        | (at_builtin; refine wpList_append_src rfl _ _ 28 rfl w2.heap.size 4 j0 (.bool false) 1 1 Try.underlying28 hj0 hy0 hy1 hy2 rfl (by decide) (.slice none 0 0) 0 [] rfl (World.ownsRow_nil _ _ _ _) Y1 k g1 _ rfl (V1.out.keep HB5.out (Nat.le_refl _)) (bls_one _) (by unfold maxLen; omega) (by omega) HB5.out.size ?_; intro q6 w6 hown6 hg6 hloc6; rw [Nat.zero_add, List.nil_append] at hown6; have hb6 : Below w2.heap.size w2 w6 := HB5.out.grown hg6 HB5.out.size (fun k hk => by cases hk); obtain ⟨A6, c6, rfl, -⟩ := own_rd (own_zero hown6); have HB6 := Lib.hid hb6; have O6 := Lib.hid (And.intro hown6 (And.intro hg6 hloc6)); clear hb6 hown6 hg6 hloc6)
        | (at_builtin; refine wpList_append_src rfl _ _ 28 rfl w2.heap.size 4 j0 (.bool false) 1 1 Try.underlying28 hj0 hy0 hy1 hy2 rfl (by decide) (.slice A6 k c6) k _ rfl (O6.out.1.alloc _) (some ⟨w6.heap.size, 0, none⟩) 1 1 [.bool sn] rfl (src1 w6 sn) (bls_one [sn]) (by unfold maxLen; omega) (by omega) (base_up HB6.out _) ?_; intro q7 w7 hown7 hg7 hloc7; have hb7 : Below w2.heap.size w2 w7 := (HB6.out.alloc HB6.out.size _).grown hg7 (base_up HB6.out _) (fun k hk => (O6.out.1.lt k hk).1); obtain ⟨A7, c7, rfl, -⟩ := own_rd (own_zero hown7); have HB7 := Lib.hid hb7; have O7 := Lib.hid (And.intro hown7 (And.intro hg7 hloc7)); clear hb7 hown7 hg7 hloc7; replace c0 := (HB7.out.cell (p := ⟨R.r, 0, none⟩) hrl2).trans HC.out.1; replace c1 := (HB7.out.cell (p := ⟨R.r, 1, none⟩) hrl2).trans HC.out.2)
        | (at_builtin; refine wpList_append_src rfl _ _ 28 rfl w2.heap.size 4 j0 (.bool false) 1 1 Try.underlying28 hj0 hy0 hy1 hy2 rfl (by decide) (.slice A7 (k + 1) c7) (k + 1) _ rfl O7.out.1 Y2 (l.length - k) g2 _ rfl (V2.out.keep HB7.out (Nat.le_refl _)) (bls_one _) (by unfold maxLen; omega) (by omega) HB7.out.size ?_; intro q8 w8 hown8 hg8 hloc8; have hb8 : Below w2.heap.size w2 w8 := HB7.out.grown hg8 HB7.out.size (fun k hk => (O7.out.1.lt k hk).1); obtain ⟨A8, c8, rfl, -⟩ := own_rd (own_zero hown8); have HB8 := Lib.hid hb8; have O8 := Lib.hid (And.intro hown8 (And.intro hg8 hloc8)); clear hb8 hown8 hg8 hloc8; have b0 := (HB8.out.block R.r hrl2).trans HFZ.out; replace c0 := cells_at b0 0; replace c1 := cells_at b0 1; have k0 := frozen_at b0 0; have k1 := frozen_at b0 1; clear b0))
      go_ret
      rw [HE.out.1, HE.out.2]
      refine ⟨by trivial, ⟨R.r, .slice A5 (k + 1 + (l.length - k)) c5, .slice A8 (k + 1 + (l.length - k)) c8⟩, rfl, ?_, ?_, ?_⟩
      · obtain ⟨o5, q5, m5⟩ := O5.out
        obtain ⟨o6, q6, m6⟩ := O6.out
        obtain ⟨o7, q7, m7⟩ := O7.out
        obtain ⟨o8, q8, m8⟩ := O8.out
        have hlen : (insEn l k ((t, r, i), sn)).length = k + 1 + (l.length - k) := by rw [insEn_len hk]; omega
        have hi5 : ∀ g, (Value.slice A5 (k + 1 + (l.length - k)) c5).ownBlock = some g → w2.heap.size ≤ g ∧ g < w5.heap.size := fun g hg => o5.lt g hg
        have hi6 : ∀ g, (Value.slice A6 k c6).ownBlock = some g → w5.heap.size ≤ g := fun g hg => by
          rcases m6 with m | m
          · rw [hg] at m; cases m
          · rw [hg] at m; injection m with m; omega
        have hs6 : w5.heap.size ≤ w6.heap.size := q6.size
        have hs7 : w6.heap.size + 1 ≤ w7.heap.size := by have := q7.size; simpa using this
        have hi7 : ∀ g, (Value.slice A7 (k + 1) c7).ownBlock = some g → w5.heap.size ≤ g := fun g hg => by
          rcases m7 with m | m
          · exact hi6 g (m ▸ hg)
          · rw [hg] at m; injection m with m; have : g = w6.heap.size + 1 := by simpa using m
            omega
        have hi8 : ∀ g, (Value.slice A8 (k + 1 + (l.length - k)) c8).ownBlock = some g → w5.heap.size ≤ g := fun g hg => by
          rcases m8 with m | m
          · exact hi7 g (m ▸ hg)
          · rw [hg] at m; injection m with m; omega
        have hap : ∀ {v : Value}, (∀ g, v.ownBlock = some g → w5.heap.size ≤ g) → (Value.slice A5 (k + 1 + (l.length - k)) c5).ownBlock = none ∨ (Value.slice A5 (k + 1 + (l.length - k)) c5).ownBlock ≠ v.ownBlock := fun {v} hv => by
          cases hq : (Value.slice A5 (k + 1 + (l.length - k)) c5).ownBlock with
          | none => exact .inl rfl
          | some g =>
            right
            intro e
            have h1 := hi5 g hq
            have h2 := hv g e.symm
            omega
        have o56 := o5.kept q6 (hap (v := .slice none 0 0) (fun g hg => by cases hg))
        have o57 := (o56.alloc (.cells #[.bool sn] 4)).kept q7 (hap hi6)
        have o58 := o57.kept q8 (hap hi7)
        have b0 := (HB8.out.block R.r hrl2).trans HFZ.out
        have t1 : Turn (fun k => k = R.r) w8 ((w8.setCell ⟨R.r, 0, none⟩ (.slice A5 (k + 1 + (l.length - k)) c5)).setCell ⟨R.r, 1, none⟩ (.slice A8 (k + 1 + (l.length - k)) c8)) :=
          (Turn.of_grown (setCell_grown w8 R.r 0 _) (F := fun k => k = R.r) (fun k hk => by cases hk; rfl)).trans (Turn.of_grown (setCell_grown _ R.r 1 _) (F := fun k => k = R.r) (fun k hk => by cases hk; rfl)) (fun i _ h => h)
        refine ⟨set2_heap (set2_heap0 b0 _) _, ?_, ?_, ?_, ?_, ?_⟩
        · have e1 : nms ((insEn l k ((t, r, i), sn)).map Prod.fst) = (nms ((l.map Prod.fst).take k) ++ [.int .i64 t, .int .i64 r, .int .i64 i]) ++ nms ((l.map Prod.fst).drop k) := by
            unfold insEn
            rw [List.map_append, List.map_cons, List.map_take, List.map_drop]
            simp [nms, nmC]
          rw [hlen, e1]
          exact own_zero (own_turn o58 t1 (fun g hg e => by
            have h1 := (hi5 g hg).1
            have h2 : g = R.r := e
            omega))
        · have e1 : bls ((insEn l k ((t, r, i), sn)).map Prod.snd) = (bls ((l.map Prod.snd).take k) ++ [.bool sn]) ++ bls ((l.map Prod.snd).drop k) := by
            unfold insEn
            rw [List.map_append, List.map_cons, List.map_take, List.map_drop]
            simp [bls]
          rw [hlen, e1]
          exact own_zero (own_turn o8 t1 (fun g hg e => by
            have h1 := (o8.lt g hg).1
            have h2 : g = R.r := e
            omega))
        · show (R.r :: (obs _ ++ obs _)).Nodup
          rw [List.nodup_cons, List.nodup_append]
          refine ⟨fun hm => ?_, obs_nod _, obs_nod _, fun a ha b hb e => ?_⟩
          · rcases List.mem_append.1 hm with hm | hm
            · have := (hi5 _ (mem_obs.1 hm)).1; omega
            · have := (o8.lt _ (mem_obs.1 hm)).1; omega
          · subst e
            have h1 := (hi5 _ (mem_obs.1 ha)).2
            have h2 := hi8 _ (mem_obs.1 hb)
            omega
        · rw [hlen]; omega
        · intro e
          have := congrArg List.length e
          rw [hlen] at this
          simp at this
      · have t1 : Turn (fun k => k = R.r) w8 ((w8.setCell ⟨R.r, 0, none⟩ (.slice A5 (k + 1 + (l.length - k)) c5)).setCell ⟨R.r, 1, none⟩ (.slice A8 (k + 1 + (l.length - k)) c8)) :=
          (Turn.of_grown (setCell_grown w8 R.r 0 _) (F := fun k => k = R.r) (fun k hk => by cases hk; rfl)).trans (Turn.of_grown (setCell_grown _ R.r 1 _) (F := fun k => k = R.r) (fun k hk => by cases hk; rfl)) (fun i _ h => h)
        refine (Turn.of_below (HBW.out.trans (HB8.out.mono HBW.out.size)) (fun k => k ∈ R.foot)).trans (t1.mono (G := fun k => k ∈ R.foot) (fun k _ hk => ?_)) (fun i _ h => h)
        have hk' : k = R.r := hk
        rw [hk']; simp [Rf.foot]
      · intro g hg
        have hsz := HBW.out.size
        have hg' : g ∈ R.r :: (obs (.slice A5 (k + 1 + (l.length - k)) c5) ++ obs (.slice A8 (k + 1 + (l.length - k)) c8)) := hg
        rcases List.mem_cons.1 hg' with rfl | hg'
        · left; simp [Rf.foot]
        · right
          rcases List.mem_append.1 hg' with hm | hm
          · have := (O5.out.1.lt _ (mem_obs.1 hm)).1; omega
          · have := (O8.out.1.lt _ (mem_obs.1 hm)).1; omega
    · have hm : (t, r, i) ∈ l.map Prod.fst := by rw [← hx]; exact List.mem_map_of_mem (List.getElem_mem hj)
      have HE : Hid (putE l (k : Int) (t, r, i) = 110 ∧ putL l (k : Int) ((t, r, i), sn) = l) := by
        unfold putE putL
        rw [if_neg HBD.out, if_neg HBD.out, if_pos hm, if_pos hm]
        exact ⟨rfl, rfl⟩
      have HB2 := Lib.hid (HB.out.trans (hb2.mono HB.out.size))
      clear hm hx hb2 CA
      go_wp2
      go_ret
      rw [HE.out.1, HE.out.2]
      exact ⟨by trivial, LeftR.same H.out HB2.out⟩

end Go.Proofs.Ytnbgnjpjdplocaa.Q10
