/-
  Layer 10, walks: what any right program answers.
-/
import Derived.Test.YtnbgnjpjdplocaaQ10o
namespace Go.Proofs.Ytnbgnjpjdplocaa.Q10
open Go.RowKit Go.PlainAid
set_option linter.unusedVariables false
set_option linter.unusedSimpArgs false

theorem wf64 {a : Int} (h1 : -9223372036854775808 ≤ a) (h2 : a ≤ 9223372036854775807) : (Lit.int .i64 a).wf = true := by
  simpa [Lit.wf, IntKind.min, IntKind.max, IntKind.signed, IntKind.bits] using And.intro h1 h2
theorem ok_nm {t r i : Int} (h1 : -9223372036854775808 ≤ t) (h2 : t ≤ 9223372036854775807) (h3 : -9223372036854775808 ≤ r) (h4 : r ≤ 9223372036854775807) (h5 : -9223372036854775808 ≤ i) (h6 : i ≤ 9223372036854775807) : okNm (t, r, i) :=
  ⟨⟨wf64 h1 h2, wf64 h3 h4⟩, wf64 h5 h6⟩
theorem ok_id {i : Int} (h5 : -9223372036854775808 ≤ i) (h6 : i ≤ 9223372036854775807) : okNm (1, 1, i) := ok_nm (by omega) (by omega) (by omega) (by omega) h5 h6

set_option maxRecDepth 100000 in
set_option maxHeartbeats 1000000 in
theorem id_any (n : Int) (w : World) : Calls Try.prog 13 #[.int .i64 n] w fun e w' => e = .returned (.agg #[.int .i64 1, .int .i64 1, .int .i64 n]) ∧ Below w.heap.size w w' := by
  go_enter Try.func13, Try.ntmps13
  go_wp2
  exact bodyPost_ret (v := .agg #[.int .i64 1, .int .i64 1, .int .i64 n]) (by simp [results, Try.results13, go_sem]) rfl ⟨rfl, (Below.refl _ _).alloc (Nat.le_refl _) _⟩

theorem put_as {S : Sf} {l l' : List En} (hf : flat S.bks = l) {a : Int} {x : Nm} {sn : Bool} {e0 : Int} (hx : okNm x) (h1 : -9223372036854775808 ≤ a) (h2 : a ≤ 9223372036854775807) (he : putE l a x = e0) (hl : putL l a (x, sn) = l') {w : World} (h : ShAt S w) (hfew : l.length + 1 ≤ 100000) :
    Calls Try.prog 12 #[.pointer (some ⟨S.s, 0, none⟩), .int .i64 a, nmV x, .bool sn] w fun e w' => e = .returned (.int .i64 e0) ∧ Left S l' w w' := by
  subst hf
  rw [← he, ← hl]
  exact shPut_any S a x sn hx h1 h2 w h hfew
theorem find_as {S : Sf} {l : List En} (hf : flat S.bks = l) {a : Int} {x : Nm} (h1 : -9223372036854775808 ≤ a) (h2 : a ≤ 9223372036854775807) (hn : nth l a = some x) {w : World} (h : ShAt S w) :
    Calls Try.prog 17 #[.pointer (some ⟨S.s, 0, none⟩), .int .i64 a] w fun e w' => e = .returned (.tuple #[nmV x, .int .i64 0]) ∧ Below w.heap.size w w' := by
  subst hf
  refine (shFind_any S a h1 h2 w h).mono ?_
  rintro e w' ⟨⟨y, hy, he⟩ | ⟨hy, he⟩, hb⟩
  · rw [hn] at hy; cases hy; exact ⟨he, hb⟩
  · rw [hn] at hy; cases hy
theorem find_no {S : Sf} {l : List En} (hf : flat S.bks = l) {a : Int} (h1 : -9223372036854775808 ≤ a) (h2 : a ≤ 9223372036854775807) (hn : nth l a = none) {w : World} (h : ShAt S w) :
    Calls Try.prog 17 #[.pointer (some ⟨S.s, 0, none⟩), .int .i64 a] w fun e w' => e = .returned (.tuple #[.agg #[.int .i64 0, .int .i64 0, .int .i64 0], .int .i64 100]) ∧ Below w.heap.size w w' := by
  subst hf
  refine (shFind_any S a h1 h2 w h).mono ?_
  rintro e w' ⟨⟨y, hy, he⟩ | ⟨hy, he⟩, hb⟩
  · rw [hn] at hy; cases hy
  · exact ⟨he, hb⟩
theorem nod_at {l : List En} (hn : (l.map Prod.fst).Nodup) {i j : Nat} (hi : i < l.length) (hj : j < l.length) (h : l[i].1 = l[j].1) : i = j := by
  have key := List.pairwise_iff_getElem.1 hn
  rcases Nat.lt_trichotomy i j with hlt | rfl | hlt
  · exact absurd (by rw [List.getElem_map, List.getElem_map]; exact h) (key i j (by simpa using hi) (by simpa using hj) hlt)
  · rfl
  · exact absurd (by rw [List.getElem_map, List.getElem_map]; exact h.symm) (key j i (by simpa using hj) (by simpa using hi) hlt)
theorem place_as {S : Sf} {l : List En} (hf : flat S.bks = l) {x : Nm} (hx : okNm x) {j : Nat} (hj : j < l.length) (hjx : l[j].1 = x) {w : World} (h : ShAt S w) :
    Calls Try.prog 15 #[.pointer (some ⟨S.s, 0, none⟩), nmV x] w fun e w' => e = .returned (.tuple #[.int .i64 (j : Int), .int .i64 (seenN (l.take j) : Int), .int .i64 0]) ∧ Below w.heap.size w w' := by
  subst hf
  refine (shPlace_any S x hx w h).mono ?_
  rintro e w' ⟨⟨hy, he⟩ | ⟨j2, hj2, hy, he⟩, hb⟩
  · exact absurd (by rw [← hjx]; exact List.mem_map_of_mem (List.getElem_mem hj)) hy
  · obtain rfl := nod_at h.names hj2 hj (hy.trans hjx.symm)
    exact ⟨he, hb⟩
theorem all_as {S : Sf} {l : List En} (hf : flat S.bks = l) {w : World} (h : ShAt S w) : Calls Try.prog 23 #[.pointer (some ⟨S.s, 0, none⟩)] w fun e w' => e = .returned (.int .i64 (l.length : Int)) ∧ w' = w := by
  subst hf; exact all_any S w h
theorem count_as {S : Sf} {l : List En} (hf : flat S.bks = l) {w : World} (h : ShAt S w) : Calls Try.prog 21 #[.pointer (some ⟨S.s, 0, none⟩)] w fun e w' => e = .returned (.int .i64 (seenN l : Int)) ∧ w' = w := by
  subst hf; exact count_any S w h

/-- A shelf of the call's own. -/
structure Own (S : Sf) (l : List En) (w0 w : World) : Prop where
  at_ : ShAt S w
  l : flat S.bks = l
  below : Below w0.heap.size w0 w
  mine : ∀ k ∈ S.foot, w0.heap.size ≤ k
theorem Own.keep {S : Sf} {l : List En} {w0 w w' : World} (h : Own S l w0 w) (hb : Below w.heap.size w w') : Own S l w0 w' :=
  ⟨h.at_.keep hb, h.l, h.below.trans (hb.mono h.below.size), h.mine⟩
theorem Own.left {S : Sf} {l l' : List En} {w0 w w' : World} (h : Own S l w0 w) (hl : Left S l' w w') : ∃ S', S'.s = S.s ∧ Own S' l' w0 w' := by
  obtain ⟨S', h1, h2, h3, h4, h5⟩ := hl
  refine ⟨S', h1, h3, h2, h.below.trans (h4.below h.below.size h.mine), fun k hk => ?_⟩
  rcases h5 k hk with h6 | h6
  · exact h.mine k h6
  · have := h.below.size; omega
def aw1 : List En := [((1, 1, 1), true)]
def aw2 : List En := [((1, 1, 2), false), ((1, 1, 1), true)]
def aw3 : List En := [((1, 1, 2), false), ((1, 1, 3), true), ((1, 1, 1), true)]
theorem new_own (w : World) : Calls Try.prog 7 #[] w fun e w' => ∃ S, e = .returned (.pointer (some ⟨S.s, 0, none⟩)) ∧ Own S [] w w' := by
  refine (new_any w).mono ?_
  rintro e w' ⟨S, he, h1, h2, h3, h4⟩
  exact ⟨S, he, h2, h1, h3, h4⟩

end Go.Proofs.Ytnbgnjpjdplocaa.Q10
