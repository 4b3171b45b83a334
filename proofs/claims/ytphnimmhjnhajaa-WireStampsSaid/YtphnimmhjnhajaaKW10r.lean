/-
  Layer 8: how long the bytes of a group that is looked at can be; what is told of it.
-/
import Derived.Test.YtphnimmhjnhajaaKW10q
import Derived.Test.YtphnimmhjnhajaaKW8c
namespace Go.Proofs.Ytphnimmhjnhajaa.W8
open Go.RowKit Go.PlainAid M8 V1
set_option linter.unusedVariables false

theorem natE_len {n : Int} (h : natD n) : (natE n).length ≤ 9 := by
  unfold natE
  exact natB_len9 (by unfold natD at h; omega)
theorem stampE_len {s : Int × Int} (h : stampD s) : (stampE s).length ≤ 18 := by
  unfold stampE
  rw [List.length_append]
  have := natE_len h.1
  have := natE_len h.2
  omega
theorem idE_len {x : Id3} (h : idD x) : (idE x).length ≤ 27 := by
  unfold idE
  simp only [List.length_append]
  have := natE_len h.1
  have := natE_len h.2.1
  have := natE_len h.2.2
  omega
theorem bytesE_len {l : List UInt8} (h : l.length ≤ 1000000) : (bytesB l).length ≤ l.length + 9 := by
  have h1 := natB_len9 (n := l.length) (by omega)
  unfold bytesB
  rw [List.length_append]
  omega
theorem opE_len {o : Opn} (h : opD o) (h1 : o.name.length ≤ 1000) (h2 : o.text.length ≤ 3000) (h3 : o.dots.length ≤ 200) (h4 : o.elems.length ≤ 100) : (opE o).length ≤ 8000 := by
  obtain ⟨hn, ht⟩ := h
  have e1 := idE_len hn
  have b1 := bytesE_len (l := o.name) (by omega)
  have b2 := bytesE_len (l := o.text) (by omega)
  have l1 := natE_len (n := (o.dots.length : Int)) ⟨by omega, by omega⟩
  have l2 := natE_len (n := (o.elems.length : Int)) ⟨by omega, by omega⟩
  unfold opE tailE
  rcases ht with ⟨hk, hp, _⟩ | ⟨hk, hp, _⟩ | ⟨hk, ⟨_, hp⟩, _⟩ | ⟨hk, hp, hq, _⟩ | ⟨hk, ⟨_, hp⟩, _⟩
  · have e0 := natE_len (n := o.kind) (by rw [hk]; constructor <;> decide)
    have e2 := idE_len hp
    have e3 : (flagE o.dir).length ≤ 9 := by unfold flagE; exact natE_len (by cases o.dir <;> (constructor <;> decide))
    rw [if_pos hk]
    simp only [List.length_append]
    omega
  · have e0 := natE_len (n := o.kind) (by rw [hk]; constructor <;> decide)
    have e2 := idE_len hp
    rw [if_neg (by rw [hk]; decide), if_pos hk]
    simp only [List.length_append]
    omega
  · have e0 := natE_len (n := o.kind) (by rw [hk]; constructor <;> decide)
    have e2 := flat_le (e := stampE) (c := 18) o.dots (fun s hs => stampE_len (hp s hs))
    rw [if_neg (by rw [hk]; decide), if_neg (by rw [hk]; decide), if_pos hk]
    unfold listE flatE
    simp only [List.length_append]
    omega
  · have e0 := natE_len (n := o.kind) (by rw [hk]; constructor <;> decide)
    have e2 := idE_len hp
    have e3 := idE_len hq
    rw [if_neg (by rw [hk]; decide), if_neg (by rw [hk]; decide), if_neg (by rw [hk]; decide), if_pos hk]
    simp only [List.length_append]
    omega
  · have e0 := natE_len (n := o.kind) (by rw [hk]; constructor <;> decide)
    have e2 := flat_le (e := idE) (c := 27) o.elems (fun s hs => idE_len (hp s hs))
    rw [if_neg (by rw [hk]; decide), if_neg (by rw [hk]; decide), if_neg (by rw [hk]; decide), if_neg (by rw [hk]; decide)]
    unfold listE flatE
    simp only [List.length_append]
    omega
theorem few_parts {g : Grp} (h : fewB g = true) : (g.ops.length ≤ 60 ∨ 200 < g.ops.length) ∧ g.deps.length ≤ 60 ∧ (g.ops.length ≤ 200 → ∀ o ∈ g.ops, o.text.length ≤ 3000 ∧ (o.elems.length ≤ 100 ∨ 2000 < o.elems.length) ∧ o.name.length ≤ 1000) := by
  unfold fewB at h
  simp only [Bool.and_eq_true, Bool.or_eq_true, decide_eq_true_eq] at h
  refine ⟨h.1.1, h.1.2, fun hl o ho => ?_⟩
  have h2 := h.2
  rw [List.take_of_length_le (by omega), List.all_eq_true] at h2
  have h3 := h2 o ho
  unfold opFew at h3
  simp only [Bool.and_eq_true, Bool.or_eq_true, decide_eq_true_eq] at h3
  exact ⟨h3.1.1, h3.1.2, h3.2⟩
theorem few_fit {G : GrpR} (h : fewB G.g = true) : Fit G := by
  obtain ⟨h1, h2, h3⟩ := few_parts h
  refine ⟨Nat.le_trans (show G.deps.length ≤ 60 from h2) (by omega), fun hl x hx => ?_⟩
  have h4 := h3 (by show (G.xs.map OpR.o).length ≤ 200; rw [List.length_map]; exact hl) x.o (List.mem_map.2 ⟨x, hx, rfl⟩)
  exact ⟨by omega, by omega⟩
theorem spell_len {g : Grp} (h : fewB g = true) (hc : check g = true) (hb : ∀ n ∈ g.deps, n ≤ 9223372036854775807) : (spell g).length ≤ 1000000 := by
  obtain ⟨h1, h2, h3⟩ := few_parts h
  obtain ⟨k1, k2⟩ := check_lim hc
  obtain ⟨d1, d2, ⟨_, d3⟩, d4, ⟨_, d5⟩⟩ := check_dom hc hb
  have e1 := stampE_len d1
  have e2 := natE_len d2
  have e3 := stampE_len d4
  have e4 : (natsE g.deps).length ≤ 9 + 9 * 60 := by
    unfold natsE listB
    have f1 := natB_len9 (n := (g.deps.map Int.toNat).length) (by rw [List.length_map]; omega)
    have f2 : (((g.deps.map Int.toNat).map natB).flatten).length ≤ 9 * (g.deps.map Int.toNat).length := by
      rw [← List.flatMap_def]
      exact flat_le (e := natB) (c := 9) _ (fun n hn => by
        obtain ⟨z, hz, rfl⟩ := List.mem_map.1 hn
        have := (d3 z hz).2
        exact natB_len9 (by omega))
    rw [List.length_append]
    rw [List.length_map] at f2
    omega
  have e5 := natE_len (n := (g.ops.length : Int)) ⟨by omega, by omega⟩
  have e6 := flat_le (e := opE) (c := 8000) g.ops (fun o ho => by
    have f1 := h3 k1 o ho
    have f2 := (k2 o ho).2
    exact opE_len (d5 o ho) f1.2.2 f1.1 f2.1 (by omega))
  unfold spell listE flatE
  simp only [List.length_append]
  omega

end Go.Proofs.Ytphnimmhjnhajaa.W8

