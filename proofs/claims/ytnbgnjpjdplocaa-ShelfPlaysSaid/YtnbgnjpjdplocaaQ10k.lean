/-
  Layer 10, walks: Show.
-/
import Derived.Test.YtnbgnjpjdplocaaQ10j
namespace Go.Proofs.Ytnbgnjpjdplocaa.Q10
open Go.RowKit Go.PlainAid
set_option linter.unusedVariables false
set_option linter.unusedSimpArgs false

theorem ens_set {l : List En} {k : Nat} (h : k < l.length) (b : Bool) : (ens l).set (k * 4 + 3) (.bool b) = ens (l.set k (l[k].1, b)) := by
  induction l generalizing k with
  | nil => simp at h
  | cons e l ih =>
    have e1 : ∀ (e : En) l, ens (e :: l) = .int .i64 e.1.1 :: .int .i64 e.1.2.1 :: .int .i64 e.1.2.2 :: .bool e.2 :: ens l := fun _ _ => rfl
    cases k with
    | zero => rw [List.set_cons_zero, e1, e1]; rfl
    | succ k =>
      rw [List.set_cons_succ, e1, e1, show (k + 1) * 4 + 3 = (k * 4 + 3) + 4 by omega]
      simp only [List.set_cons_succ, List.getElem_cons_succ]
      rw [ih (by simpa using h)]
/-- A store into an entry of a row of the call's own. -/
theorem own_set {w : World} {g n c : Nat} {l : List En} (h : w.ownsRow 0 63 4 (.slice (some ⟨g, 0, none⟩) n c) n (ens l)) (hl : l.length = n) {k : Nat} (hk : k < l.length) (b : Bool) :
    (w.setCell ⟨g, k * 4 + 3, none⟩ (.bool b)).ownsRow 0 63 4 (.slice (some ⟨g, 0, none⟩) n c) n (ens (l.set k (l[k].1, b))) := by
  refine ⟨by rw [ens_len, List.length_set, hl], .inr ?_⟩
  rcases h.2 with ⟨h0, _⟩ | ⟨g', cap, cur, e, hb, hh, h1, h2, h3, h4⟩
  · cases h0
  · cases e
    refine ⟨g, c, cur.setIfInBounds (k * 4 + 3) (.bool b), rfl, hb, ?_, h1, h2, by simpa using h3, ?_⟩
    · rw [setCell_eq_setRow w g _ cur _ (0, 0) _ hh]
      exact setRow_heap w g cur _ _ (0, 0) hh
    · rw [Array.toList_setIfInBounds, ← ens_set hk, ← h4, List.take_set]

def showL (l : List En) (x : Nm) (b : Bool) : List En := l.map fun e => if e.1 = x then (x, b) else e
theorem showL_names (l : List En) (x : Nm) (b : Bool) : (showL l x b).map Prod.fst = l.map Prod.fst := by
  rw [showL, List.map_map]
  apply List.map_congr_left
  intro e _
  show (if e.1 = x then (x, b) else e).1 = e.1
  split
  · rename_i h; exact h.symm
  · rfl
theorem showL_none {l : List En} {x : Nm} (h : x ∉ l.map Prod.fst) (b : Bool) : showL l x b = l := by
  rw [showL]
  conv => rhs; rw [← List.map_id l]
  apply List.map_congr_left
  intro e he
  show (if e.1 = x then (x, b) else e) = e
  rw [if_neg (fun e2 => h (by rw [← e2]; exact List.mem_map_of_mem he))]
theorem showL_append (a c : List En) (x : Nm) (b : Bool) : showL (a ++ c) x b = showL a x b ++ showL c x b := by simp [showL]
theorem showL_set {l : List En} {x : Nm} (hn : (l.map Prod.fst).Nodup) {k : Nat} (hk : k < l.length) (hx : l[k].1 = x) (b : Bool) : showL l x b = l.set k (l[k].1, b) := by
  induction l generalizing k with
  | nil => simp at hk
  | cons e l ih =>
    rw [List.map_cons, List.nodup_cons] at hn
    have e1 : showL (e :: l) x b = (if e.1 = x then (x, b) else e) :: showL l x b := rfl
    cases k with
    | zero =>
      have hx' : e.1 = x := hx
      rw [e1, if_pos hx', showL_none (by rw [← hx']; exact hn.1)]
      show _ = (e.1, b) :: l
      rw [hx']
    | succ k =>
      have hk' : k < l.length := by simpa using hk
      have hx' : l[k].1 = x := hx
      have hne : e.1 ≠ x := fun e2 => hn.1 (by rw [e2, ← hx']; exact List.mem_map_of_mem (List.getElem_mem hk'))
      rw [e1, if_neg hne, ih hn.2 hk' hx']
      rfl

/-- The shelf with one block another one. -/
def Sf.with (S : Sf) (n : Nat) (es : List En) : Sf := { S with bks := S.bks.set n { p := (S.bks.getD n ⟨0, .slice none 0 0, []⟩).p, v := (S.bks.getD n ⟨0, .slice none 0 0, []⟩).v, es := es } }

set_option maxRecDepth 100000 in
set_option maxHeartbeats 2000000 in
theorem shShow_walk (s p g n c hb k0 : Nat) (bv : Value) (b : Bool) (l : List En) (x : Nm) (hk0 : k0 < l.length) (hl : l.length = n) (hn : n ≤ 100000) (hlt : ∀ j (hj : j < l.length), j < k0 → l[j].1 ≠ x) (hx : l[k0].1 = x) (w : World)
    (hs : w.heap[s]? = some (.cells #[bv, .map (some hb)] 61 (0, 0)))
    (hp : w.heap[p]? = some (.cells #[.slice (some ⟨g, 0, none⟩) n c, .int .i64 (seenN l)] 57 (0, 0)))
    (hown : w.ownsRow 0 63 4 (.slice (some ⟨g, 0, none⟩) n c) n (ens l)) (hgp : g ≠ p)
    (hl1 : ∀ w', Below w.heap.size w w' → ∀ q, (Instr.lookup 59 (.map (some hb)) (nmV x) true).run Try.prog (w'.drewN q) = .ok (.tuple #[.pointer (some ⟨p, 0, none⟩), .bool true]) (w'.drewN q)) :
    Calls Try.prog 19 #[.pointer (some ⟨s, 0, none⟩), nmV x, .bool b] w fun e w' => e = .returned (.int .i64 0) ∧
      w'.heap[p]? = some (.cells #[.slice (some ⟨g, 0, none⟩) n c, .int .i64 (seenN (l.set k0 (l[k0].1, b)))] 57 (0, 0)) ∧
      w'.ownsRow 0 63 4 (.slice (some ⟨g, 0, none⟩) n c) n (ens (l.set k0 (l[k0].1, b))) ∧ Turn (fun k => k = p ∨ k = g) w w' := by
  obtain ⟨t, r, i⟩ := x
  have hsl := heap_lt hs
  have hpl := heap_lt hp
  have hgl := (hown.lt g rfl).2
  have hba : Below w.heap.size w (w.alloc (.cells #[.int .i64 t, .int .i64 r, .int .i64 i] 35)) := (Below.refl _ _).alloc (Nat.le_refl _) _
  obtain ⟨w1, hw1⟩ : ∃ w1, w1 = w.alloc (.cells #[.int .i64 t, .int .i64 r, .int .i64 i] 35) := ⟨_, rfl⟩
  have hN := heap_alloc_new w (.cells #[.int .i64 t, .int .i64 r, .int .i64 i] 35)
  have HA : Hid (w.alloc (.cells #[.int .i64 t, .int .i64 r, .int .i64 i] 35) = w1) := hw1.symm
  rw [← hw1] at hba hN
  have hws : w.heap.size < w1.heap.size := by rw [hw1]; simp
  have hl := hl1 w1 hba
  simp only [nmV] at hl
  have c1 := cells_at ((hba.block s hsl).trans hs) 1
  have a0 := cells_at hN 0
  have a1 := cells_at hN 1
  have a2 := cells_at hN 2
  have HN := Lib.hid hN
  have HP := Lib.hid hp
  have HO := Lib.hid hown
  have HB := Lib.hid hba
  have HX := Lib.hid (And.intro hx hlt)
  clear hw1 hN hp hown hba hx hlt hl1 hs
  show Calls Try.prog 19 #[.pointer (some ⟨s, 0, none⟩), .agg #[.int .i64 t, .int .i64 r, .int .i64 i], .bool b] w _
  go_enter Try.func19, Try.ntmps19
  go_upto_region 1 with fail
  rw [HA.out]
  go_quiet (fail)
  clear hl c1 a0 a1 a2
  obtain ⟨w2, hw2⟩ : ∃ w2, w2 = w1.drewN nq := ⟨_, rfl⟩
  rw [← hw2]
  have hb2 : Below w.heap.size w w2 := by rw [hw2]; exact below_drewN HB.out nq
  have hN2 : w2.heap[w.heap.size]? = some (.cells #[.int .i64 t, .int .i64 r, .int .i64 i] 35 (0, 0)) := by rw [hw2]; exact HN.out
  have hs2 : w.heap.size < w2.heap.size := heap_lt hN2
  have HB2 := Lib.hid hb2
  clear hw2
  have hp2 := (hb2.block p hpl).trans HP.out
  have ho2 := HO.out.kept (grown_of (hb2.mono (Nat.le_refl _)) none) (by simp [Value.ownBlock])
  have d0 := cells_at hp2 0
  have a0 := cells_at hN2 0
  have a1 := cells_at hN2 1
  have a2 := cells_at hN2 2
  obtain ⟨A, c', hv, hr2, -⟩ := own_rd ho2
  cases hv
  have hcc := ho2.cells (g := g) rfl
  have hk3 := (ens_get hk0).2.2.2
  have CALL : Hid (Calls Try.prog 29 #[.pointer (some ⟨p, 0, none⟩), .agg #[.int .i64 t, .int .i64 r, .int .i64 i]] w2.drew fun e w3 => e = .returned (.int .i64 (k0 : Int)) ∧ w3.cell? ⟨p, 0, none⟩ = some (.slice (some ⟨g, 0, none⟩) n c) ∧ w3.cell? ⟨g, k0 * 4 + 3, none⟩ = some (.bool l[k0].2) ∧ w3.frozen? ⟨g, k0 * 4 + 3, none⟩ = false ∧ Hid (Below w.heap.size w w3)) := by
    refine (place_any p (some ⟨g, 0, none⟩) n c l (t, r, i) w2.drew d0 hr2 hl (by omega) k0 hk0 HX.out.1 HX.out.2).mono ?_
    rintro e w3 ⟨rfl, hb3⟩
    have hp3 := (hb3.block p (heap_lt hp2)).trans hp2
    have hb4 : Below w.heap.size w w3 := hb2.drew.trans (hb3.mono (Nat.le_of_lt hs2))
    refine ⟨rfl, (cells_at hp3 0).trans rfl, ?_, ?_, hb4⟩
    · have := hcc _ _ hk3
      rw [add0] at this
      exact (hb3.cell (p := ⟨g, k0 * 4 + 3, none⟩) (show g < w2.heap.size by have := hb2.size; omega)).trans this
    · rcases HO.out.2 with ⟨h0, _⟩ | ⟨g', cap, cur, e, hb, hh, _⟩
      · cases h0
      · cases e
        exact frozen_at ((hb4.block g hgl).trans hh) _
  clear hr2 hcc hk3
  have HCNT : Hid (∀ w3, Below w.heap.size w w3 → Calls Try.prog 26 #[.pointer (some ⟨p, 0, none⟩)] (w3.setCell ⟨g, k0 * 4 + 3, none⟩ (.bool b)) fun e w' => e = .returned (.tuple #[]) ∧
      w'.heap[p]? = some (.cells #[.slice (some ⟨g, 0, none⟩) n c, .int .i64 (seenN (l.set k0 (l[k0].1, b)))] 57 (0, 0)) ∧
      w'.ownsRow 0 63 4 (.slice (some ⟨g, 0, none⟩) n c) n (ens (l.set k0 (l[k0].1, b))) ∧ Turn (fun k => k = p ∨ k = g) w w') := by
    intro w3 hb3
    have hp3 : (w3.setCell ⟨g, k0 * 4 + 3, none⟩ (.bool b)).heap[p]? = some (.cells #[.slice (some ⟨g, 0, none⟩) n c, .int .i64 (seenN l)] 57 (0, 0)) :=
      (Below.heap_setCell _ _ _ _ (fun e => hgp e.symm)).trans ((hb3.block p hpl).trans HP.out)
    have ho3 := own_set (HO.out.kept (grown_of hb3 none) (by simp [Value.ownBlock])) hl hk0 b
    have hl' : (l.set k0 (l[k0].1, b)).length = n := by rw [List.length_set, hl]
    refine (blkCount_any p _ _ (l.set k0 (l[k0].1, b)) _ hp3 (by rw [hl']; exact ho3) (by rw [hl']; omega)).mono ?_
    rintro e w' ⟨he, h1, h2⟩
    have ht : Turn (fun k => k = p ∨ k = g) w (w3.setCell ⟨g, k0 * 4 + 3, none⟩ (.bool b)) :=
      (Turn.of_below hb3 (fun k => k = p ∨ k = g)).trans (Turn.of_grown (setCell_grown w3 g (k0 * 4 + 3) (.bool b)) (F := fun k => k = p ∨ k = g) (fun k hk => by cases hk; exact .inr rfl)) (fun i _ h => h)
    refine ⟨he, h1, ho3.kept h2 (.inr (by simp [Value.ownBlock]; exact hgp)), ht.trans (Turn.of_grown h2 (F := fun k => k = p ∨ k = g) (fun k hk => by cases hk; exact .inl rfl)) (fun i _ h => h)⟩
  have hkn : k0 < n := by omega
  have hkz : (k0 : Int) < (n : Int) := by omega
  go_upto_region 4 with fail
  go_region_law (go_simp; go_at_call 29; refine CALL.out.mono ?_; rintro e w3 ⟨rfl, e0, e1, e2, HQ⟩)
  all_goals
    go_wp2_with fail
    refine (HCNT.out w3 HQ.out).mono ?_
    rintro e w5 ⟨rfl, q1, q2, q3⟩
    have HE := Lib.hid (And.intro q1 (And.intro q2 q3))
    clear q1 q2 q3
    go_wp2
    go_ret
    exact ⟨by trivial, HE.out⟩

end Go.Proofs.Ytnbgnjpjdplocaa.Q10
