/-
  Layer 10, the document's shelf in memory; where an id is, how many are seen.
-/
import Derived.Test.YtnbgnjpjdplocaaQ10r
namespace Go.Proofs.Ytnbgnjpjdplocaa.Q10
open Go.RowKit Go.PlainAid
set_option linter.unusedVariables false
set_option linter.unusedSimpArgs false

structure Rf where
  r : Nat
  iv : Value
  sv : Value
def Rf.foot (R : Rf) : List Nat := R.r :: (obs R.iv ++ obs R.sv)
def bls (l : List Bool) : List Value := l.map Value.bool
theorem bls_len (l : List Bool) : (bls l).length = l.length := by simp [bls]

structure RefAt (R : Rf) (l : List En) (w : World) : Prop where
  box : w.heap[R.r]? = some (.cells #[R.iv, R.sv] 30 (0, 0))
  ids : w.ownsRow 0 35 3 R.iv l.length (nms (l.map Prod.fst))
  seen : w.ownsRow 0 4 1 R.sv l.length (bls (l.map Prod.snd))
  apart : R.foot.Nodup
  few : l.length ≤ 100000
  nils : l = [] → R.iv = .slice none 0 0 ∧ R.sv = .slice none 0 0

theorem RefAt.foot_lt {R : Rf} {l : List En} {w : World} (h : RefAt R l w) : ∀ k ∈ R.foot, k < w.heap.size := by
  intro k hk
  simp only [Rf.foot, List.mem_cons, List.mem_append, mem_obs] at hk
  rcases hk with rfl | hk | hk
  · exact heap_lt h.box
  · exact (h.ids.lt k hk).2
  · exact (h.seen.lt k hk).2
theorem RefAt.turn {R : Rf} {l : List En} {w w' : World} {F : Nat → Prop} (h : RefAt R l w) (hg : Turn F w w') (hn : ∀ k ∈ R.foot, ¬ F k) : RefAt R l w' where
  box := (hg.block R.r (heap_lt h.box) (hn _ (by simp [Rf.foot]))).trans h.box
  ids := own_turn h.ids hg (fun g hg' => hn g (by simp [Rf.foot, mem_obs, hg']))
  seen := own_turn h.seen hg (fun g hg' => hn g (by simp [Rf.foot, mem_obs, hg']))
  apart := h.apart
  few := h.few
  nils := h.nils
theorem RefAt.keep {R : Rf} {l : List En} {w w' : World} (h : RefAt R l w) (hb : Below w.heap.size w w') : RefAt R l w' :=
  h.turn (Turn.of_below hb (fun k => w.heap.size ≤ k)) (fun k hk => by have := h.foot_lt k hk; omega)
theorem RefAt.facts {R : Rf} {l : List En} {w : World} (h : RefAt R l w) : ∃ A c B d, w.cell? ⟨R.r, 0, none⟩ = some (.slice A l.length c) ∧ w.cell? ⟨R.r, 1, none⟩ = some (.slice B l.length d) ∧ Rd w A (nms (l.map Prod.fst)) ∧ Rd w B (bls (l.map Prod.snd)) ∧ R.iv = .slice A l.length c ∧ R.sv = .slice B l.length d := by
  obtain ⟨A, c, hv, hr, hc, hm⟩ := own_rd h.ids
  obtain ⟨B, d, hv2, hr2, hc2, hm2⟩ := own_rd h.seen
  refine ⟨A, c, B, d, ?_, ?_, hr, hr2, hv, hv2⟩
  · rw [cells_at h.box 0, ← hv]; rfl
  · rw [cells_at h.box 1, ← hv2]; rfl
theorem id_at {w : World} {A : Option Addr} {l : List En} (h : Rd w A (nms (l.map Prod.fst))) {k : Nat} (hk : k < l.length) :
    ∃ b off, A = some ⟨b, off, none⟩ ∧ b < w.heap.size ∧ w.cell? ⟨b, off + k * 3, none⟩ = some (.int .i64 l[k].1.1) ∧ w.cell? ⟨b, off + k * 3 + 1, none⟩ = some (.int .i64 l[k].1.2.1) ∧ w.cell? ⟨b, off + k * 3 + 2, none⟩ = some (.int .i64 l[k].1.2.2) := by
  obtain ⟨b, off, e, hb, h0, h1, h2⟩ := nm_cells h (k := k) (by simpa using hk)
  have hx : (l.map Prod.fst)[k]'(by simpa using hk) = l[k].1 := by rw [List.getElem_map]
  rw [hx] at h0 h1 h2
  exact ⟨b, off, e, hb, h0, h1, h2⟩
theorem bl_at {w : World} {B : Option Addr} {l : List En} (h : Rd w B (bls (l.map Prod.snd))) {k : Nat} (hk : k < l.length) :
    ∃ b off, B = some ⟨b, off, none⟩ ∧ b < w.heap.size ∧ w.cell? ⟨b, off + k, none⟩ = some (.bool l[k].2) := by
  obtain ⟨b, off, e, hb, h0⟩ := h.get (k := k) (by simpa [bls] using hk)
  exact ⟨b, off, e, hb, by rw [h0]; simp [bls]⟩

/-- What 'at' answers. -/
def AtIs (l : List En) (x : Nm) (e : Ending) : Prop :=
  (x ∉ l.map Prod.fst ∧ e = .returned (.int .i64 (-1))) ∨ ∃ (j : Nat) (h : j < l.length), l[j].1 = x ∧ e = .returned (.int .i64 (j : Int))

set_option maxRecDepth 100000 in
set_option maxHeartbeats 2000000 in
theorem refAt_any (R : Rf) (l : List En) (x : Nm) (w : World) (h : RefAt R l w) : Calls Try.prog 28 #[.pointer (some ⟨R.r, 0, none⟩), nmV x] w fun e w' => AtIs l x e ∧ Below w.heap.size w w' := by
  obtain ⟨t, r, i⟩ := x
  obtain ⟨A, c, B, d, c0, c1, hr, hr2, -, -⟩ := h.facts
  have hrl := heap_lt h.box
  have hfew := h.few
  have hne : R.r ≠ w.heap.size := by omega
  have hba : Below w.heap.size w (w.alloc (.cells #[.int .i64 t, .int .i64 r, .int .i64 i] 35)) := (Below.refl _ _).alloc (Nat.le_refl _) _
  have hN := heap_alloc_new w (.cells #[.int .i64 t, .int .i64 r, .int .i64 i] 35)
  obtain ⟨w1, hw1⟩ : ∃ w1, w1 = w.alloc (.cells #[.int .i64 t, .int .i64 r, .int .i64 i] 35) := ⟨_, rfl⟩
  have HA : Hid (w.alloc (.cells #[.int .i64 t, .int .i64 r, .int .i64 i] 35) = w1) := hw1.symm
  rw [← hw1] at hba hN
  have HR := Lib.hid hr
  have HB := Lib.hid hba
  have HN := Lib.hid hN
  have HC := Lib.hid c0
  clear h hr hr2 c1 hba hN hw1 c0
  have hcc : w1.cell? ⟨R.r, 0, none⟩ = some (.slice A l.length c) := (HB.out.cell (p := ⟨R.r, 0, none⟩) hrl).trans HC.out
  show Calls Try.prog 28 #[.pointer (some ⟨R.r, 0, none⟩), .agg #[.int .i64 t, .int .i64 r, .int .i64 i]] w _
  go_enter Try.func28, Try.ntmps28
  go_upto_region 1 with fail
  rw [HA.out]
  go_wp2
  go_loopw [5] (fun ix wr => ∃ k : Nat, k ≤ l.length ∧ ix = .int .i64 (k : Int) ∧ Hid (∀ j (hj : j < l.length), j < k → l[j].1 ≠ (t, r, i)) ∧ Hid (Below w1.heap.size w1 wr)) (fun i _ => l.length - (intOf i).toNat)
  case atStart => exact ⟨0, by omega, rfl, fun j _ hj => absurd hj (Nat.not_lt_zero _), Below.refl _ _⟩
  case round =>
    clear hcc
    obtain ⟨k, hk, rfl, HL, HW⟩ := hrel
    have hB2 := HB.out.trans (HW.out.mono HB.out.size)
    have c0 := (hB2.cell (p := ⟨R.r, 0, none⟩) hrl).trans HC.out
    have hx := (HW.out.block w.heap.size (heap_lt HN.out)).trans HN.out
    have x0 := cells_at hx 0
    have x1 := cells_at hx 1
    have x2 := cells_at hx 2
    have HB2 := Lib.hid hB2
    clear hB2 hx
    by_cases hlt : k < l.length
    · obtain ⟨b, off, rfl, hb, y0, y1, y2⟩ := id_at (HR.out.keep HB2.out) hlt
      by_cases he : l[k].1 = (t, r, i)
      · have HF : Hid (AtIs l (t, r, i) (.returned (.int .i64 (k : Int)))) := .inr ⟨k, hlt, he, rfl⟩
        rw [he] at y0 y1 y2
        have hE : ∀ W : World, (binOp .eql 35 (.agg #[.int .i64 t, .int .i64 r, .int .i64 i]) (.agg #[.int .i64 t, .int .i64 r, .int .i64 i])).run Try.prog W = .ok (.bool true) W := fun W => by rw [nm_eql]; simp
        clear he
        go_wp2
        go_quiet (fail)
        go_wp2
        go_ret
        exact ⟨HF.out, below_drewN HB2.out _⟩
      · have hE : ∀ W : World, (binOp .eql 35 (.agg #[.int .i64 l[k].1.1, .int .i64 l[k].1.2.1, .int .i64 l[k].1.2.2]) (.agg #[.int .i64 t, .int .i64 r, .int .i64 i])).run Try.prog W = .ok (.bool false) W := fun W => by
          rw [nm_eql, decide_eq_false]
          exact he
        have HL2 : Hid (∀ j (hj : j < l.length), j < k + 1 → l[j].1 ≠ (t, r, i)) := fun j hj hjk => by
          by_cases e : j = k
          · subst e; exact he
          · exact HL.out j hj (by omega)
        clear he HL
        generalize l[k].1.1 = z1 at *
        generalize l[k].1.2.1 = z2 at *
        generalize l[k].1.2.2 = z3 at *
        go_wp2
        go_quiet (fail)
        go_wp2
        go_roundw
        case rel => exact ⟨k + 1, by omega, by go_num, HL2, below_drewN HW.out _⟩
        case measure => simp [intOf]; omega
    · obtain rfl : k = l.length := by omega
      have HF : Hid (AtIs l (t, r, i) (.returned (.int .i64 (-1)))) := .inl ⟨fun h => by
        obtain ⟨e, he, h2⟩ := List.mem_map.1 h
        obtain ⟨j, hj, rfl⟩ := List.getElem_of_mem he
        exact HL.out j hj hj h2, rfl⟩
      go_wp2
      go_ret
      exact ⟨HF.out, HB2.out⟩

set_option maxRecDepth 100000 in
set_option maxHeartbeats 2000000 in
theorem refCountN_any (R : Rf) (l : List En) (n : Nat) (hn : n ≤ l.length) (w : World) (h : RefAt R l w) : Calls Try.prog 31 #[.pointer (some ⟨R.r, 0, none⟩), .int .i64 (n : Int)] w fun e w' => e = .returned (.int .i64 (seenN (l.take n) : Int)) ∧ w' = w := by
  obtain ⟨A, c, B, d, c0, c1, hr, hr2, -, -⟩ := h.facts
  have hfew := h.few
  have HR := Lib.hid hr2
  clear h hr hr2 c0
  go_enter Try.func31, Try.ntmps31
  go_wp2
  go_loopw [5, 6] (fun ax ix wr => ∃ k : Nat, k ≤ n ∧ ix = .int .i64 (k : Int) ∧ ax = .int .i64 (seenN (l.take k) : Int) ∧ wr = w) (fun _ i _ => n - (intOf i).toNat)
  case atStart => exact ⟨0, by omega, rfl, rfl, rfl⟩
  case round =>
    obtain ⟨k, hk, rfl, rfl, hw⟩ := hrel
    subst hw
    by_cases hlt : k < n
    · have hkl : k < l.length := by omega
      have hlz : (k : Int) < (l.length : Int) := by omega
      obtain ⟨b, off, rfl, hb, y0⟩ := bl_at HR.out hkl
      have hsn := seenN_snoc hkl
      have hs1 := seenN_le (l.take k)
      rw [List.length_take] at hs1
      cases hs : l[k].2 with
      | true =>
        rw [hs] at hsn y0
        have HS := Lib.hid hsn
        clear hsn hs
        go_wp2
        go_roundw
        case rel => exact ⟨k + 1, by omega, by go_num, by rw [HS.out]; simp, by trivial⟩
        case measure => simp [intOf]; omega
      | false =>
        rw [hs] at hsn y0
        have HS := Lib.hid hsn
        clear hsn hs
        go_wp2
        go_roundw
        case rel => exact ⟨k + 1, by omega, by go_num, by rw [HS.out]; simp, by trivial⟩
        case measure => simp [intOf]; omega
    · obtain rfl : k = n := by omega
      go_wp2
      go_ret
      exact ⟨by trivial, by trivial⟩

set_option maxRecDepth 100000 in
set_option maxHeartbeats 2000000 in
theorem refCount_any (R : Rf) (l : List En) (w : World) (h : RefAt R l w) : Calls Try.prog 22 #[.pointer (some ⟨R.r, 0, none⟩)] w fun e w' => e = .returned (.int .i64 (seenN l : Int)) ∧ w' = w := by
  obtain ⟨A, c, B, d, c0, -⟩ := h.facts
  have HC := Lib.hid (refCountN_any R l l.length (Nat.le_refl _) w h)
  rw [List.take_length] at HC
  clear h
  go_enter Try.func22, Try.ntmps22
  go_wp2_with fail
  refine (HC.out).mono ?_
  rintro e w1 ⟨rfl, hw⟩
  go_wp2
  go_ret
  exact ⟨by trivial, by trivial⟩

end Go.Proofs.Ytnbgnjpjdplocaa.Q10
