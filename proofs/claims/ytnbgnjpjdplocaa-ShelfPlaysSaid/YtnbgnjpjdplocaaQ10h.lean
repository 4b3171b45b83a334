/-
  Layer 10, walks: a block's count, New, Find.
-/
import Derived.Test.YtnbgnjpjdplocaaQ10g
namespace Go.Proofs.Ytnbgnjpjdplocaa.Q10
open Go.RowKit Go.PlainAid
set_option linter.unusedVariables false
set_option linter.unusedSimpArgs false

theorem set2_heap {w : World} {b : Nat} {x y : Value} {t : TypeId} (h : w.heap[b]? = some (.cells #[x, y] t (0, 0))) (y' : Value) :
    (w.setCell ⟨b, 1, none⟩ y').heap[b]? = some (.cells #[x, y'] t (0, 0)) := by
  rw [setCell_eq_setRow w b 1 _ t (0, 0) y' h]
  exact setRow_heap w b _ _ t (0, 0) h
theorem set2_heap0 {w : World} {b : Nat} {x y : Value} {t : TypeId} (h : w.heap[b]? = some (.cells #[x, y] t (0, 0))) (x' : Value) :
    (w.setCell ⟨b, 0, none⟩ x').heap[b]? = some (.cells #[x', y] t (0, 0)) := by
  rw [setCell_eq_setRow w b 0 _ t (0, 0) x' h]
  exact setRow_heap w b _ _ t (0, 0) h

set_option maxRecDepth 100000 in
set_option maxHeartbeats 1000000 in
theorem blkCount_any (p : Nat) (v : Value) (q : Value) (es : List En) (w : World) (hbox : w.heap[p]? = some (.cells #[v, q] 57 (0, 0))) (hown : w.ownsRow 0 63 4 v es.length (ens es)) (hn : es.length ≤ 1000000) :
    Calls Try.prog 26 #[.pointer (some ⟨p, 0, none⟩)] w fun e w' => e = .returned (.tuple #[]) ∧ w'.heap[p]? = some (.cells #[v, .int .i64 (seenN es : Int)] 57 (0, 0)) ∧ w.grownBy w' (some p) := by
  obtain ⟨A, c, rfl, hr, hc, hm⟩ := own_rd hown
  have HS := Lib.hid (seenOf_any A es.length c es w hr rfl hn)
  have c0 := cells_at hbox 0
  have hp := heap_lt hbox
  have HB := Lib.hid hbox
  clear hown hr hbox
  go_enter Try.func26, Try.ntmps26
  go_wp2_with fail
  refine (HS.out).mono ?_
  rintro e w1 ⟨rfl, hb⟩
  have hb1 := (hb.block p hp).trans HB.out
  have d1 := cells_at hb1 1
  have f1 := frozen_at hb1 1
  have HB1 := Lib.hid hb1
  clear hb1
  go_wp2
  refine bodyPost_end (results_none rfl _ _ _) rfl ?_
  exact ⟨rfl, set2_heap HB1.out _, grown_trans (grown_of hb _) (setCell_grown _ _ _ _)⟩

/-- The kth seen one's place. -/
theorem pick {l : List En} : ∀ {k : Nat}, k < seenN l → ∃ (k0 : Nat) (h : k0 < l.length), l[k0].2 = true ∧ seenN (l.take k0) = k ∧ ((l.filter (·.2)).map Prod.fst)[k]? = some l[k0].1 := by
  induction l with
  | nil => intro k h; simp [seenN] at h
  | cons e l ih =>
    intro k h
    cases hs : e.2 with
    | true =>
      cases k with
      | zero => exact ⟨0, by simp, hs, rfl, by simp [hs]⟩
      | succ k =>
        have h' : k < seenN l := by simp [seenN, hs] at h ⊢; omega
        obtain ⟨k0, hk, h1, h2, h3⟩ := ih h'
        refine ⟨k0 + 1, by simpa using hk, h1, ?_, ?_⟩
        · rw [List.take_succ_cons]; simp [seenN, hs] at h2 ⊢; omega
        · simp [hs]; simpa using h3
    | false =>
      have h' : k < seenN l := by simp [seenN, hs] at h ⊢; omega
      obtain ⟨k0, hk, h1, h2, h3⟩ := ih h'
      refine ⟨k0 + 1, by simpa using hk, h1, ?_, ?_⟩
      · rw [List.take_succ_cons]; simp [seenN, hs] at h2 ⊢; omega
      · simp [hs]; simpa using h3

def nth (l : List En) (k : Int) : Option Nm := if k < 0 then none else ((l.filter (·.2)).map Prod.fst)[k.toNat]?
theorem nth_none {l : List En} {k : Int} (h : k < 0 ∨ (seenN l : Int) ≤ k) : nth l k = none := by
  unfold nth
  rcases h with h | h
  · rw [if_pos h]
  · split
    · rfl
    · rw [List.getElem?_eq_none]
      simp [seenN] at h ⊢; omega
theorem nth_mid {a b c : List En} {k : Nat} {x : Nm} (h : ((b.filter (·.2)).map Prod.fst)[k]? = some x) (q : Int) (hq : q = (seenN a + k : Nat)) : nth (a ++ b ++ c) q = some x := by
  subst hq
  unfold nth
  rw [if_neg (by omega)]
  have hk : k < (b.filter (·.2)).length := by
    have := (List.getElem?_eq_some_iff.1 h).1; simpa using this
  rw [List.filter_append, List.filter_append, List.map_append, List.map_append, Int.toNat_natCast, List.getElem?_append_left (by simp [seenN]; omega), List.getElem?_append_right (by simp [seenN])]
  simpa [seenN] using h

/-- What Find answers. -/
def FindIs (l : List En) (k : Int) (e : Ending) : Prop :=
  (∃ x, nth l k = some x ∧ e = .returned (.tuple #[nmV x, .int .i64 0])) ∨ (nth l k = none ∧ e = .returned (.tuple #[nmV (0, 0, 0), .int .i64 100]))

set_option maxRecDepth 100000 in
set_option maxHeartbeats 2000000 in
theorem shFind_any (S : Sf) (a : Int) (h1 : -9223372036854775808 ≤ a) (h2 : a ≤ 9223372036854775807) (w : World) (h : ShAt S w) :
    Calls Try.prog 17 #[.pointer (some ⟨S.s, 0, none⟩), .int .i64 a] w fun e w' => FindIs (flat S.bks) a e ∧ Below w.heap.size w w' := by
  have hsl := h.foot_lt S.s (by simp [Sf.foot])
  obtain ⟨A, c, c0, c1, hr, hc, hm, -⟩ := h.facts
  have hne : S.s ≠ w.heap.size := by omega
  have hba : Below w.heap.size w (w.alloc (.cells #[.int .i64 0, .int .i64 0, .int .i64 0] 35)) := (Below.refl _ _).alloc (Nat.le_refl _) _
  have H := Lib.hid (h.keep hba)
  have HR := Lib.hid (hr.keep hba)
  have hsh := h.short
  have hfew := h.few
  have hsf := seenN_le (flat S.bks)
  have HB := Lib.hid hba
  clear h hr c1 hba
  by_cases hneg : a < 0
  · have HF : Hid (FindIs (flat S.bks) a (.returned (.tuple #[.agg #[.int .i64 0, .int .i64 0, .int .i64 0], .int .i64 100]))) := .inr ⟨nth_none (.inl hneg), rfl⟩
    go_enter Try.func17, Try.ntmps17
    go_wp2
    exact bodyPost_ret (v := .tuple #[.agg #[.int .i64 0, .int .i64 0, .int .i64 0], .int .i64 100]) (by simp [results, Try.results17, go_sem]) rfl ⟨HF.out, HB.out⟩
  · go_enter Try.func17, Try.ntmps17
    go_wp2
    go_loopw [1, 16] (fun x i wr => ∃ k : Nat, k ≤ S.bks.length ∧ i = .int .i64 (k : Int) ∧ x = .int .i64 (a - seenN (flat (S.bks.take k))) ∧ 0 ≤ a - seenN (flat (S.bks.take k)) ∧ wr = w.alloc (.cells #[.int .i64 0, .int .i64 0, .int .i64 0] 35)) (fun _ i _ => S.bks.length - (intOf i).toNat)
    case atStart => exact ⟨0, by omega, rfl, by simp [flat, seenN], by simp [flat, seenN]; omega, rfl⟩
    case round =>
      obtain ⟨k, hk, rfl, rfl, h0, rfl⟩ := hrel
      by_cases hlt : k < S.bks.length
      · obtain ⟨b, off, rfl, hbl, p0⟩ := ptrs_cell HR.out hlt
        have hat := H.out.each S.bks[k] (List.getElem_mem hlt)
        obtain ⟨A2, c2, d0, d1, hr2, hc2, hm2, -⟩ := hat.facts
        have hpl := heap_lt hat.1
        have hsn : seenN (flat (S.bks.take (k + 1))) = seenN (flat (S.bks.take k)) + seenN S.bks[k].es := by rw [flat_succ hlt, seenN_append]
        have hb1 := es_few hlt
        have hb2 := seenN_le (flat (S.bks.take k))
        have hb3 := seenN_le S.bks[k].es
        by_cases hin : a - seenN (flat (S.bks.take k)) < seenN S.bks[k].es
        · obtain ⟨m, hm3⟩ : ∃ m : Nat, a - seenN (flat (S.bks.take k)) = m := ⟨_, (Int.toNat_of_nonneg h0).symm⟩
          have hms : m < seenN S.bks[k].es := by omega
          obtain ⟨k0, hk0, e1, e2, e3⟩ := pick (l := S.bks[k].es) (k := m) (by omega)
          have HF : Hid (FindIs (flat S.bks) a (.returned (.tuple #[nmV S.bks[k].es[k0].1, .int .i64 0]))) := .inl ⟨_, by rw [flat_split hlt]; exact nth_mid e3 a (by omega), rfl⟩
          have HC := Lib.hid (find_any S.bks[k].p A2 _ c2 S.bks[k].es m _ d0 hr2 rfl (by omega) k0 hk0 e1 e2)
          rw [hm3]
          clear hsn d0 hr2 hat hm3 e1 e2 e3 h0
          obtain ⟨⟨x1, x2, x3⟩, hx⟩ : ∃ x, x = S.bks[k].es[k0].1 := ⟨_, rfl⟩
          rw [← hx] at HF HC
          clear hx
          generalize S.bks[k].p = pk at *
          generalize seenN S.bks[k].es = sk at *
          go_wp2_with fail
          refine (HC.out).mono ?_
          rintro e w2 ⟨rfl, hb4⟩
          have hw2 : w2.heap[w.heap.size]? = some (.cells #[.int .i64 0, .int .i64 0, .int .i64 0] 35 (0, 0)) := (hb4.block w.heap.size (by simp)).trans (heap_alloc_new w _)
          have g0 := cells_at hw2 0
          have g1 := cells_at hw2 1
          have g2 := cells_at hw2 2
          have f0 := frozen_at hw2 0
          have f1 := frozen_at hw2 1
          have f2 := frozen_at hw2 2
          have HQ := set3_heap (x' := .int .i64 x1) (y' := .int .i64 x2) (z' := .int .i64 x3) hw2
          have q0 := cells_at HQ 0
          have q1 := cells_at HQ 1
          have q2 := cells_at HQ 2
          have HW := Lib.hid hw2
          have HB4 := Lib.hid hb4
          clear HQ hw2 hb4 d1 p0
          simp only [nmV]
          go_wp2
          exact bodyPost_ret (v := .tuple #[.agg #[.int .i64 x1, .int .i64 x2, .int .i64 x3], .int .i64 0]) (by simp [results, Try.results17, go_sem, q0, q1, q2]) rfl ⟨HF.out, (((HB.out.trans (HB4.out.mono (by simp))).setCell (Nat.le_refl _) _).setCell (Nat.le_refl _) _).setCell (Nat.le_refl _) _⟩
        · have HS := Lib.hid hsn
          clear hsn d0 hr2 hat
          generalize S.bks[k].p = pk at *
          generalize seenN S.bks[k].es = sk at *
          generalize seenN (flat (S.bks.take k)) = fk at *
          go_wp2
          go_roundw
          case rel => exact ⟨k + 1, by omega, by go_num, by rw [HS.out]; congr 1; omega, by rw [HS.out]; omega, by trivial⟩
          case measure => simp [intOf]; omega
      · obtain rfl : k = S.bks.length := by omega
        have HF : Hid (FindIs (flat S.bks) a (.returned (.tuple #[.agg #[.int .i64 0, .int .i64 0, .int .i64 0], .int .i64 100]))) := .inr ⟨nth_none (.inr (by rw [List.take_length] at h0; omega)), rfl⟩
        go_wp2
        exact bodyPost_ret (v := .tuple #[.agg #[.int .i64 0, .int .i64 0, .int .i64 0], .int .i64 100]) (by simp [results, Try.results17, go_sem]) rfl ⟨HF.out, HB.out⟩

end Go.Proofs.Ytnbgnjpjdplocaa.Q10
