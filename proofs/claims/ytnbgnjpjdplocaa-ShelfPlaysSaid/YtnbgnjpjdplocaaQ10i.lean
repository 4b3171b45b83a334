/-
  Layer 10, walks: Place.
-/
import Derived.Test.YtnbgnjpjdplocaaQ10h
import Derived.Deep.CutRange
import Derived.LaidEqlPtr
namespace Go.Proofs.Ytnbgnjpjdplocaa.Q10
open Go.RowKit Go.PlainAid
set_option linter.unusedVariables false
set_option linter.unusedSimpArgs false

theorem first_at {l : List En} {x : Nm} (h : x ∈ l.map Prod.fst) : ∃ (k0 : Nat) (hk : k0 < l.length), l[k0].1 = x ∧ ∀ j (hj : j < l.length), j < k0 → l[j].1 ≠ x := by
  induction l with
  | nil => simp at h
  | cons e l ih =>
    by_cases he : e.1 = x
    · exact ⟨0, by simp, he, fun j _ hj => absurd hj (Nat.not_lt_zero _)⟩
    · have h' : x ∈ l.map Prod.fst := by
        rw [List.map_cons, List.mem_cons] at h
        exact h.resolve_left (fun e2 => he e2.symm)
      obtain ⟨k0, hk, h1, h2⟩ := ih h'
      refine ⟨k0 + 1, by simpa using hk, h1, fun j hj hlt => ?_⟩
      cases j with
      | zero => exact he
      | succ j => exact h2 j (by simpa using hj) (by omega)
/-- Where an id is that the map tells a block of. -/
theorem locate {L : List Bk} {x : Nm} {p : Nat} (h : (x, p) ∈ asg L) : ∃ (n0 : Nat) (hn : n0 < L.length) (k0 : Nat) (hk : k0 < L[n0].es.length), L[n0].p = p ∧ L[n0].es[k0].1 = x ∧ ∀ j (hj : j < L[n0].es.length), j < k0 → L[n0].es[j].1 ≠ x := by
  obtain ⟨b, hb, hm⟩ := List.mem_flatMap.1 h
  obtain ⟨e, he, heq⟩ := List.mem_map.1 hm
  obtain ⟨n0, hn, rfl⟩ := List.getElem_of_mem hb
  cases heq
  obtain ⟨k0, hk, h1, h2⟩ := first_at (List.mem_map_of_mem (f := Prod.fst) he)
  exact ⟨n0, hn, k0, hk, rfl, h1, h2⟩
theorem flat_at {L : List Bk} {n0 k0 : Nat} (hn : n0 < L.length) (hk : k0 < L[n0].es.length) : ∃ h : (flat (L.take n0)).length + k0 < (flat L).length, (flat L)[(flat (L.take n0)).length + k0] = L[n0].es[k0] ∧ (flat L).take ((flat (L.take n0)).length + k0) = flat (L.take n0) ++ L[n0].es.take k0 := by
  have hf := es_few hn
  refine ⟨by omega, ?_, ?_⟩
  · have e := congrArg (fun l => l[(flat (L.take n0)).length + k0]?) (flat_split hn)
    simp only [List.append_assoc] at e
    rw [List.getElem?_append_right (by omega), List.getElem?_append_left (by omega), Nat.add_sub_cancel_left, List.getElem?_eq_getElem hk, List.getElem?_eq_getElem (by omega)] at e
    exact Option.some.inj e
  · rw [flat_split hn, List.append_assoc, List.take_length_add_append, List.take_append_of_le_length (by omega)]
theorem foot_ne {S : Sf} (h : S.foot.Nodup) {i j : Nat} (hi : i < S.bks.length) (hj : j < S.bks.length) (hne : i ≠ j) : S.bks[i].p ≠ S.bks[j].p := by
  have h1 : (S.bks.flatMap Bk.foot).Nodup := by
    have := (List.nodup_cons.1 (List.nodup_cons.1 h).2).2
    exact (List.nodup_append.1 this).2.1
  have key : ∀ (L : List Bk), (L.flatMap Bk.foot).Nodup → (L.map (·.p)).Nodup := by
    intro L
    induction L with
    | nil => intro _; simp
    | cons b L ih =>
      intro hL
      rw [List.flatMap_cons, List.nodup_append] at hL
      rw [List.map_cons, List.nodup_cons]
      refine ⟨fun hm => ?_, ih hL.2.1⟩
      obtain ⟨b', hb', he⟩ := List.mem_map.1 hm
      exact hL.2.2 b.p (by simp [Bk.foot]) b'.p (List.mem_flatMap.2 ⟨b', hb', by simp [Bk.foot]⟩) he.symm
  have h2 := key _ h1
  intro e
  have key2 := List.pairwise_iff_getElem.1 h2
  rcases Nat.lt_or_gt_of_ne hne with hlt | hlt
  · exact key2 i j (by simpa using hi) (by simpa using hj) hlt (by simpa using e)
  · exact key2 j i (by simpa using hj) (by simpa using hi) hlt (by simpa using e.symm)

theorem blkSize : (Try.prog.info? 57).map (·.size) = some 2 := by kernel_rfl
theorem ptr_same (w : World) (p : Nat) : (binOp .eql 54 (.pointer (some ⟨p, 0, none⟩)) (.pointer (some ⟨p, 0, none⟩))).run Try.prog w = .ok (.bool true) w := by
  obtain ⟨j, hj, _⟩ := Option.map_eq_some_iff.1 blkSize
  exact run_eql_ptr_same w ⟨p, 0, none⟩ Try.underlying54 hj
theorem ptr_other {w : World} {p q : Nat} {ca cb : Array Value} {ta tb : TypeId} (hp : w.heap[p]? = some (.cells ca ta (0, 0))) (hq : w.heap[q]? = some (.cells cb tb (0, 0))) (h : p ≠ q) :
    (binOp .eql 54 (.pointer (some ⟨p, 0, none⟩)) (.pointer (some ⟨q, 0, none⟩))).run Try.prog w = .ok (.bool false) w := by
  obtain ⟨j, hj, hs⟩ := Option.map_eq_some_iff.1 blkSize
  exact run_eql_ptr_other w (a := ⟨p, 0, none⟩) (b := ⟨q, 0, none⟩) Try.underlying54 hj (by rw [hs]; decide) (fun e => h (by cases e; rfl)) hp hq
theorem Rd.pre {w : World} {A : Option Addr} {xs : List Value} (h : Rd w A xs) (k : Nat) : Rd w A (xs.take k) := by
  rcases h with rfl | ⟨b, off, e, hb, hc⟩
  · exact .inl (by simp)
  · refine .inr ⟨b, off, e, hb, fun j hj => ?_⟩
    rw [List.length_take] at hj
    rw [hc j (by omega)]
    simp
theorem sliceE_toA {A : Option Addr} {n c i : Nat} (hA : A = none ∨ ∃ b off, A = some ⟨b, off, none⟩) (h : i ≤ c) (w : World) :
    (Instr.slice 55 (.slice A n c) none (some (.int .i64 (i : Int))) none).run Try.prog w = .ok (.slice A i c) w := by
  have h2 : (i : Int) ≤ (c : Int) := by omega
  have h0 : (0 : Int) ≤ (i : Int) := by omega
  rcases hA with rfl | ⟨b, off, rfl⟩
  · go_simp
  · go_simp

def PlaceIs (l : List En) (x : Nm) (e : Ending) : Prop :=
  (x ∉ l.map Prod.fst ∧ e = .returned (.tuple #[.int .i64 0, .int .i64 0, .int .i64 111])) ∨
  ∃ (j : Nat) (h : j < l.length), l[j].1 = x ∧ e = .returned (.tuple #[.int .i64 (j : Int), .int .i64 (seenN (l.take j) : Int), .int .i64 0])

set_option maxRecDepth 100000 in
set_option maxHeartbeats 2000000 in
theorem shPlace_any (S : Sf) (x : Nm) (hx : okNm x) (w : World) (h : ShAt S w) :
    Calls Try.prog 15 #[.pointer (some ⟨S.s, 0, none⟩), nmV x] w fun e w' => PlaceIs (flat S.bks) x e ∧ Below w.heap.size w w' := by
  obtain ⟨t, r, i⟩ := x
  have hsl := h.foot_lt S.s (by simp [Sf.foot])
  have hba : Below w.heap.size w (w.alloc (.cells #[.int .i64 t, .int .i64 r, .int .i64 i] 35)) := (Below.refl _ _).alloc (Nat.le_refl _) _
  obtain ⟨A, c, c0, c1, hr, hc, hm, -⟩ := (h.keep hba).facts
  have HR := Lib.hid hr
  have hlook := (h.keep hba).home.look hx
  have H := Lib.hid (h.keep hba)
  have hsh := h.short
  have hfew := h.few
  have HB := Lib.hid hba
  have hne : S.s ≠ w.heap.size := by omega
  have a0 := World.cell?_alloc_at (w := w) #[.int .i64 t, .int .i64 r, .int .i64 i] 35 w.heap.size 0 rfl
  have a1 := World.cell?_alloc_at (w := w) #[.int .i64 t, .int .i64 r, .int .i64 i] 35 w.heap.size 1 rfl
  have a2 := World.cell?_alloc_at (w := w) #[.int .i64 t, .int .i64 r, .int .i64 i] 35 w.heap.size 2 rfl
  obtain ⟨w1, hw1⟩ : ∃ w1, w1 = w.alloc (.cells #[.int .i64 t, .int .i64 r, .int .i64 i] 35) := ⟨_, rfl⟩
  have hws : w.heap.size < w1.heap.size := by rw [hw1]; simp
  have HA : Hid (w.alloc (.cells #[.int .i64 t, .int .i64 r, .int .i64 i] 35) = w1) := hw1.symm
  rw [← hw1] at c0 c1 HR hlook H HB a0 a1 a2
  clear hr hba h hw1
  obtain ⟨bx, hbx⟩ : ∃ bx, bx = w.heap.size := ⟨_, rfl⟩
  show Calls Try.prog 15 #[.pointer (some ⟨S.s, 0, none⟩), .agg #[.int .i64 t, .int .i64 r, .int .i64 i]] w fun e w' => PlaceIs (flat S.bks) (t, r, i) e ∧ Below w.heap.size w w'
  rcases hlook with ⟨p, hp, hl⟩ | ⟨hn, hl⟩
  · obtain ⟨n0, hn0, k0, hk0, e1, e2, e3⟩ := locate hp
    have hat := H.out.each S.bks[n0] (List.getElem_mem hn0)
    obtain ⟨A2, c2, d0, d1, hr2, hc2, hm2, -⟩ := hat.facts
    have hf := es_few hn0
    have hkn : k0 ≤ c2 := by omega
    have HP := Lib.hid (place_any S.bks[n0].p A2 S.bks[n0].es.length c2 S.bks[n0].es (t, r, i))
    have HE := Lib.hid (And.intro e2 e3)
    have HR2 := Lib.hid hr2
    obtain ⟨hj1, hj2, hj3⟩ := flat_at hn0 hk0
    have HF : Hid (PlaceIs (flat S.bks) (t, r, i) (.returned (.tuple #[.int .i64 (((flat (S.bks.take n0)).length : Int) + (k0 : Int)), .int .i64 ((seenN (flat (S.bks.take n0)) : Int) + (seenN (S.bks[n0].es.take k0) : Int)), .int .i64 0]))) :=
      .inr ⟨_, hj1, by rw [hj2]; exact e2, by rw [hj3, seenN_append]; simp⟩
    have hs1 := seenN_le (flat (S.bks.take n0))
    have hs2 := seenN_le (S.bks[n0].es.take k0)
    rw [List.length_take] at hs2
    clear hat d1 e2 e3 hr2 hj1 hj2 hj3
    have HD := Lib.hid d0
    have HN := Lib.hid e1
    clear d0 e1 hp
    go_enter Try.func15, Try.ntmps15
    go_upto_region 1 with fail
    rw [HA.out]
    simp only [nmV] at hl
    go_quiet (fail)
    clear hl c1
    obtain ⟨w2, hw2⟩ : ∃ w2, w2 = w1.drewN nq := ⟨_, rfl⟩
    have hb2 : Below w1.heap.size w1 w2 := by rw [hw2]; exact below_drewN (Below.refl _ _) nq
    have HB2 := Lib.hid hb2
    rw [← hw2]
    replace c0 : w2.cell? ⟨S.s, 0, none⟩ = some (.slice A S.bks.length c) := by rw [hw2]; exact c0
    replace a0 : w2.cell? ⟨w.heap.size, 0, none⟩ = some (.int .i64 t) := by rw [hw2]; exact a0
    replace a1 : w2.cell? ⟨w.heap.size, 1, none⟩ = some (.int .i64 r) := by rw [hw2]; exact a1
    replace a2 : w2.cell? ⟨w.heap.size, 2, none⟩ = some (.int .i64 i) := by rw [hw2]; exact a2
    have H2 := Lib.hid (H.out.keep hb2)
    have HRd := Lib.hid (HR.out.keep hb2)
    have HD2 : Hid (w2.cell? ⟨S.bks[n0].p, 0, none⟩ = some (.slice A2 S.bks[n0].es.length c2)) := by rw [hw2]; exact HD.out
    have HR3 := Lib.hid (HR2.out.keep hb2)
    clear hb2 hw2
    go_wp2
    go_loopw [4, 5, 28] (fun al se ix wr => ∃ k : Nat, k ≤ n0 ∧ ix = .int .i64 (k : Int) ∧ al = .int .i64 ((flat (S.bks.take k)).length : Int) ∧ se = .int .i64 (seenN (flat (S.bks.take k)) : Int) ∧ wr = w2) (fun _ _ i _ => S.bks.length - (intOf i).toNat)
    case atStart => exact ⟨0, by omega, rfl, rfl, rfl, rfl⟩
    case round =>
      obtain ⟨k, hk, rfl, rfl, rfl, rfl⟩ := hrel
      have hlt : k < S.bks.length := by omega
      obtain ⟨b, off, rfl, hbl, p0⟩ := ptrs_cell HRd.out hlt
      by_cases he : k = n0
      · subst he
        rw [HN.out] at p0
        have hq := HD2.out
        rw [HN.out] at hq
        have HC := Lib.hid (HP.out wr (by rw [HN.out]; exact hq) HR3.out (by trivial) (by omega) k0 hk0 HE.out.1 HE.out.2)
        rw [HN.out] at HC
        simp only [nmV] at HC
        have HSE := fun (W : World) (hW : Below wr.heap.size wr W) => seenOf_any A2 k0 c2 (S.bks[k].es.take k0) W (by rw [← ens_take]; exact Rd.pre (HR3.out.keep hW) _) (by rw [List.length_take]; omega) (by omega)
        have HSE := Lib.hid HSE
        have hE := ptr_same wr p
        go_wp2_with fail
        refine (HC.out).mono ?_
        rintro e w3 ⟨rfl, hb3⟩
        have g0 := (hb3.cell (p := ⟨p, 0, none⟩) (World.block_lt_of_cell? wr _ hq)).trans hq
        have HS3 := Lib.hid (HSE.out w3 hb3)
        have HB3 := Lib.hid hb3
        clear hb3
        have hsl2 : ∀ W : World, (Instr.slice 55 (.slice A2 S.bks[k].es.length c2) none (some (.int .i64 (k0 : Int))) none).run Try.prog W = .ok (.slice A2 k0 c2) W := fun W => by
          obtain ⟨b5, off5, e5, -⟩ := en_cells HR3.out hk0
          exact sliceE_toA (.inr ⟨b5, off5, e5⟩) hkn W
        go_wp2_with fail
        refine (HS3.out).mono ?_
        rintro e w4 ⟨rfl, hb4⟩
        go_wp2
        go_ret3
        exact ⟨HF.out, ((HB.out.trans (HB2.out.mono (by omega))).trans (HB3.out.mono (by have := HB2.out.size; omega))).trans (hb4.mono (by have := HB2.out.size; have := HB3.out.size; omega))⟩
      · have hnp := foot_ne H2.out.apart hlt hn0 he
        have hE := ptr_other (H2.out.each S.bks[k] (List.getElem_mem hlt)).1 (H2.out.each S.bks[n0] (List.getElem_mem hn0)).1 hnp
        rw [HN.out] at hE hnp
        obtain ⟨A3, c3, d0, d1, -⟩ := (H2.out.each S.bks[k] (List.getElem_mem hlt)).facts
        have hsn : seenN (flat (S.bks.take (k + 1))) = seenN (flat (S.bks.take k)) + seenN S.bks[k].es := by rw [flat_succ hlt, seenN_append]
        have hsm : (flat (S.bks.take (k + 1))).length = (flat (S.bks.take k)).length + S.bks[k].es.length := by rw [flat_succ hlt, List.length_append]
        have hb1 := es_few hlt
        have hb2 := seenN_le (flat (S.bks.take k))
        have hb3 := seenN_le S.bks[k].es
        have HS := Lib.hid (And.intro hsn hsm)
        clear hsn hsm
        generalize S.bks[k].p = pk at *
        generalize seenN S.bks[k].es = sk at *
        generalize S.bks[k].es.length = ek at *
        go_wp2
        go_roundw
        case rel => exact ⟨k + 1, by omega, by go_num, by rw [HS.out.2]; simp, by rw [HS.out.1]; simp, by trivial⟩
        case measure => simp [intOf]; omega
  · have HF : Hid (PlaceIs (flat S.bks) (t, r, i) (.returned (.tuple #[.int .i64 0, .int .i64 0, .int .i64 111]))) := .inl ⟨by rw [asg_names] at hn; exact hn, rfl⟩
    clear hn
    go_enter Try.func15, Try.ntmps15
    go_upto_region 1 with fail
    rw [HA.out]
    simp only [nmV] at hl
    go_quiet (fail)
    go_wp2
    go_ret3
    exact ⟨HF.out, below_drewN HB.out _⟩

end Go.Proofs.Ytnbgnjpjdplocaa.Q10
