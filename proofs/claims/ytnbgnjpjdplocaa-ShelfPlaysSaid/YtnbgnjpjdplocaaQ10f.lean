/-
  Layer 10, memory: the map that tells of an id its block.
-/
import Derived.Test.YtnbgnjpjdplocaaQ10e
import Derived.DeepKeys4
namespace Go.Proofs.Ytnbgnjpjdplocaa.Q10
open Go.RowKit Go.PlainAid Go.WideMaps
set_option linter.unusedVariables false
set_option linter.unusedSimpArgs false

def okNm (x : Nm) : Prop := ((Lit.int .i64 x.1).wf = true ∧ (Lit.int .i64 x.2.1).wf = true) ∧ (Lit.int .i64 x.2.2).wf = true

theorem idRow : (35 : TypeId) < Try.prog.types.size := of_decide_eq_true (by kernel_rfl)
theorem idWide : (match Try.prog.underlying 35 with | some (.array _ _) | some (.struct _) => true | _ => false) = true := by kernel_rfl
theorem idLaid : laidOutB Try.prog = true := by kernel_rfl
theorem idLaw : Go.Maps.Keyed Try.prog 35 := Go.Maps.Keyed.of_law (deep_law_laid idLaid (m := 3) (by omega) idRow (by kernel_rfl) idWide)
theorem idCells : Try.prog.cellsOf 35 = 3 := by kernel_rfl
theorem stCells : Try.prog.cellsOf 33 = 2 := by kernel_rfl
theorem inCells : Try.prog.cellsOf 3 = 1 := by kernel_rfl
theorem idKey : Try.prog.keyType 35 = true := by kernel_rfl
theorem idLits {x : Nm} (h : okNm x) : ∃ ls, Try.prog.keyLits (Try.prog.types.size + 1) 35 (nmC x) = some ls := by
  obtain ⟨⟨h1, h2⟩, h3⟩ := h
  have hz : ∃ m, Try.prog.types.size + 1 = m + 4 := ⟨Try.prog.types.size - 3, by have : Try.prog.types.size = (Try.prog.types.size - 3) + 3 := by kernel_rfl
                                                                                 omega⟩
  obtain ⟨m, hm⟩ := hz
  rw [hm]
  obtain ⟨a, b, c⟩ := x
  simp only at h1 h2 h3
  refine ⟨[.int .i64 a, .int .i64 b, .int .i64 c], ?_⟩
  simp [Program.keyLits, Try.underlying35, Try.underlying33, Try.underlying3, idCells, stCells, inCells, nmC, h1, h2, h3, List.mapM_cons]
  rw [if_pos (by intro i hi; match i, hi with | 0, _ => simp | 1, _ => simp)]
  rfl
theorem idKeyed {x : Nm} (h : okNm x) : ∃ l, keyOf Try.prog 35 (nmV x) = some l := by
  obtain ⟨ls, hl⟩ := idLits h
  have hu := idWide
  unfold keyOf
  have hf : (nmV x).formed Try.prog 35 = true := by
    simp [Value.formed, nmV, Try.underlying35, idCells]
  have hc : (nmV x).cells.toList = nmC x := rfl
  rw [hf, idKey, hc, hl]
  split at hu
  · rename_i h; rw [h]; exact ⟨_, rfl⟩
  · rename_i h; rw [h]; exact ⟨_, rfl⟩
  · cases hu

noncomputable def kl (x : Nm) : Lit := (keyOf Try.prog 35 (nmV x)).getD (.bool true)
theorem kl_ok {x : Nm} (h : okNm x) : keyOf Try.prog 35 (nmV x) = some (kl x) := by
  obtain ⟨l, hl⟩ := idKeyed h
  rw [kl, hl]; rfl
theorem kl_inj {x y : Nm} (hx : okNm x) (hy : okNm y) (h : kl x = kl y) : x = y := by
  have h1 := kl_ok hx
  rw [h] at h1
  have := idLaw.inj h1 (kl_ok hy)
  simp [nmV] at this
  exact Prod.ext this.1 (Prod.ext this.2.1 this.2.2)
theorem kl_key {x : Nm} (h : okNm x) : WideAt.IsKeyLit (kl x) := idLaw.key (kl_ok h)

/-- How a pointer to a block reads: as the block's number. -/
def RB : Value → Option (DataW Unit × List MemPlace)
  | .pointer none => some (.nil, [])
  | .pointer (some ⟨b, 0, none⟩) => some (.lit (.int .i64 (b : Int)), [])
  | _ => none
theorem RB_inv {v : Value} {b : Nat} {ps : List MemPlace} (h : RB v = some (.lit (.int .i64 (b : Int)), ps)) : v = .pointer (some ⟨b, 0, none⟩) := by
  unfold RB at h
  split at h
  · simp at h
  · simp at h; rw [Int.natCast_inj.1 h.1]
  · cases h
theorem RB_nil {v : Value} {ps : List MemPlace} (h : RB v = some (.nil, ps)) : v = .pointer none := by
  unfold RB at h
  split at h
  · rfl
  · simp at h
  · cases h

/-- The map in block hb tells of each id of xs its block, and of no other one. -/
structure Home (w : World) (hb : Nat) (xs : List (Nm × Nat)) : Prop where
  ex : ∃ D : DataW Unit, w.ownsMap Try.prog 35 RB hb xs.length D ∧ Go.Maps.size D = xs.length ∧ (∀ x, okNm x → (Go.Maps.has D (kl x) = true ↔ x ∈ xs.map Prod.fst)) ∧ (∀ q ∈ xs, D.atKey (kl q.1) .nil = .lit (.int .i64 (q.2 : Int)))
  ok : ∀ q ∈ xs, okNm q.1
  nod : (xs.map Prod.fst).Nodup

theorem Home.turn {w w' : World} {hb : Nat} {xs : List (Nm × Nat)} {F : Nat → Prop} (h : Home w hb xs) (hg : Turn F w w') (hn : ¬ F hb) : Home w' hb xs := by
  obtain ⟨⟨D, h1, h2⟩, h3, h4⟩ := h
  exact ⟨⟨D, map_turn h1 hg hn, h2⟩, h3, h4⟩
theorem Home.lt {w : World} {hb : Nat} {xs : List (Nm × Nat)} (h : Home w hb xs) : hb < w.heap.size := by
  obtain ⟨⟨D, h1, h2⟩, h3, h4⟩ := h
  exact h1.lt
theorem own_size {w : World} {b n : Nat} {D : DataW Unit} (h : w.ownsMap Try.prog 35 RB b n D) : w.ownsMap Try.prog 35 RB b (Go.Maps.size D) D := by
  obtain ⟨es, clock, hb, F, hs, hD⟩ := h
  refine ⟨es, clock, hb, F, ?_, hD⟩
  rw [hD]
  simp [Go.Maps.size, length_sorted]
theorem zeroBlk (w : World) : (zeroValue 54).run Try.prog w = .ok (.pointer none) w := by kernel_rfl

/-- The look-up. -/
theorem Home.look {w : World} {hb : Nat} {xs : List (Nm × Nat)} (h : Home w hb xs) {x : Nm} (hx : okNm x) :
    (∃ p, (x, p) ∈ xs ∧ ∀ q, (Instr.lookup 59 (.map (some hb)) (nmV x) true).run Try.prog (w.drewN q) = .ok (.tuple #[.pointer (some ⟨p, 0, none⟩), .bool true]) (w.drewN q)) ∨
    (x ∉ xs.map Prod.fst ∧ ∀ q, (Instr.lookup 59 (.map (some hb)) (nmV x) true).run Try.prog (w.drewN q) = .ok (.tuple #[.pointer none, .bool false]) (w.drewN q)) := by
  obtain ⟨⟨D, h1, h2, h3, h4⟩, h5, h6⟩ := h
  have key : ∀ q, ∃ v ps, (Instr.lookup 59 (.map (some hb)) (nmV x) true).run Try.prog (w.drewN q) = .ok (.tuple #[v, .bool (Go.Maps.has D (kl x))]) (w.drewN q) ∧ RB v = some (D.atKey (kl x) .nil, ps) := fun q =>
    World.ownsMap.look_ok (w := w.drewN q) (show (w.drewN q).ownsMap _ _ _ _ _ _ from h1) idLaw Try.underlying59 (zeroBlk _) (zd := .nil) (zp := []) rfl (kl_ok hx)
  by_cases hm : x ∈ xs.map Prod.fst
  · left
    obtain ⟨⟨y, p⟩, hq, rfl⟩ := List.mem_map.1 hm
    refine ⟨p, hq, fun q => ?_⟩
    obtain ⟨v, ps, e1, e2⟩ := key q
    rw [h4 _ hq] at e2
    rw [e1, RB_inv e2, (h3 y hx).2 hm]
  · right
    refine ⟨hm, fun q => ?_⟩
    obtain ⟨v, ps, e1, e2⟩ := key q
    have hh : Go.Maps.has D (kl x) = false := by
      cases hq : Go.Maps.has D (kl x)
      · rfl
      · exact absurd ((h3 x hx).1 hq) hm
    rw [Go.Maps.atKey_of_not_has hh] at e2
    rw [e1, RB_nil e2, hh]
theorem Home.len {w : World} {hb : Nat} {xs : List (Nm × Nat)} (h : Home w hb xs) (ty : TypeId) : (Builtin.len_ #[59] ty #[.map (some hb)]).run Try.prog w = .ok (.int .i64 (xs.length : Int)) w := by
  obtain ⟨⟨D, h1, h2, h3, h4⟩, h5, h6⟩ := h
  rw [h1.len Try.underlying59 ty, h2]

/-- A store at an id that is not there. -/
theorem Home.put {w : World} {hb : Nat} {xs ys : List (Nm × Nat)} (h : Home w hb xs) {x : Nm} (hx : okNm x) (hn : x ∉ xs.map Prod.fst) (p : Nat) (hl : xs.length ≤ 1000000) (hy : ys.Perm ((x, p) :: xs)) :
    ∃ w', (Instr.mapUpdate 59 (.map (some hb)) (nmV x) (.pointer (some ⟨p, 0, none⟩))).run Try.prog w = .ok () w' ∧ Home w' hb ys ∧ w.grownBy w' (some hb) := by
  obtain ⟨⟨D, h1, h2, h3, h4⟩, h5, h6⟩ := h
  obtain ⟨w', hr, ho, ht⟩ := h1.store idLaw Try.underlying59 (by unfold maxLen; omega) (kl_ok hx) (val := .pointer (some ⟨p, 0, none⟩)) (d := .lit (.int .i64 (p : Int))) (ps := []) rfl
  have hh : Go.Maps.has D (kl x) = false := by
    cases hq : Go.Maps.has D (kl x)
    · rfl
    · exact absurd ((h3 x hx).1 hq) hn
  have hs : Go.Maps.size (D.put (kl x) (.lit (.int .i64 (p : Int)))) = xs.length + 1 := by
    rw [Go.Maps.size_put (h1.tidy idLaw), hh, h2]; simp
  have hyl : ys.length = xs.length + 1 := by simpa using hy.length_eq
  refine ⟨w', hr, ⟨⟨_, by rw [hyl]; exact ho, by rw [hs, hyl], fun y hyk => ?_, fun q hq => ?_⟩, fun q hq => ?_, ?_⟩, ht.grown⟩
  · rw [(hy.map Prod.fst).mem_iff]
    by_cases e : y = x
    · subst e
      rw [Go.Maps.has_put_same h1.isMap (kl_key hx)]; simp
    · rw [Go.Maps.has_put_other (fun e2 => e (kl_inj hyk hx e2)), h3 y hyk]
      simp [e]
  · rcases List.mem_cons.1 (hy.mem_iff.1 hq) with rfl | hq
    · rw [Go.Maps.atKey_put_same h1.isMap (kl_key hx)]
    · rw [Go.Maps.atKey_put_other (fun e2 => hn (by rw [← kl_inj (h5 q hq) hx e2]; exact List.mem_map_of_mem hq)), h4 q hq]
  · rcases List.mem_cons.1 (hy.mem_iff.1 hq) with rfl | hq
    · exact hx
    · exact h5 q hq
  · exact ((hy.map Prod.fst).nodup_iff).2 (List.nodup_cons.2 ⟨hn, h6⟩)

/-- A store at an id that is there. -/
theorem Home.move {w : World} {hb : Nat} {xs A B : List (Nm × Nat)} {x : Nm} {p : Nat} (h : Home w hb xs) (he : xs.Perm ((x, p) :: B)) (p' : Nat) (hl : xs.length ≤ 1000000) (hy : A.Perm ((x, p') :: B)) :
    ∃ w', (Instr.mapUpdate 59 (.map (some hb)) (nmV x) (.pointer (some ⟨p', 0, none⟩))).run Try.prog w = .ok () w' ∧ Home w' hb A ∧ w.grownBy w' (some hb) := by
  obtain ⟨⟨D, h1, h2, h3, h4⟩, h5, h6⟩ := h
  have hx : okNm x := h5 (x, p) (he.mem_iff.2 (by simp))
  have hkn : (((x, p) :: B).map Prod.fst).Nodup := ((he.map Prod.fst).nodup_iff).1 h6
  have hnB : x ∉ B.map Prod.fst := (List.nodup_cons.1 hkn).1
  obtain ⟨w', hr, ho, ht⟩ := h1.store idLaw Try.underlying59 (by unfold maxLen; omega) (kl_ok hx) (val := .pointer (some ⟨p', 0, none⟩)) (d := .lit (.int .i64 (p' : Int))) (ps := []) rfl
  have hmem : x ∈ xs.map Prod.fst := (he.map Prod.fst).mem_iff.2 (by simp)
  have hh : Go.Maps.has D (kl x) = true := (h3 x hx).2 hmem
  have hs : Go.Maps.size (D.put (kl x) (.lit (.int .i64 (p' : Int)))) = xs.length := by
    rw [Go.Maps.size_put (h1.tidy idLaw), hh, h2]; simp
  have hA : A.length = xs.length := by rw [hy.length_eq, he.length_eq]; simp
  have ho' := own_size ho
  rw [hs, ← hA] at ho'
  refine ⟨w', hr, ⟨⟨_, ho', by rw [hs, hA], fun y hyk => ?_, fun q hq => ?_⟩, fun q hq => ?_, ?_⟩, ht.grown⟩
  · rw [(hy.map Prod.fst).mem_iff]
    by_cases e : y = x
    · subst e
      rw [Go.Maps.has_put_same h1.isMap (kl_key hx)]; simp
    · rw [Go.Maps.has_put_other (fun e2 => e (kl_inj hyk hx e2)), h3 y hyk, (he.map Prod.fst).mem_iff]
      simp [e]
  · rcases List.mem_cons.1 (hy.mem_iff.1 hq) with rfl | hq
    · rw [Go.Maps.atKey_put_same h1.isMap (kl_key hx)]
    · have hqx : q ∈ xs := he.mem_iff.2 (List.mem_cons_of_mem _ hq)
      rw [Go.Maps.atKey_put_other (fun e2 => hnB (by rw [← kl_inj (h5 q hqx) hx e2]; exact List.mem_map_of_mem hq)), h4 q hqx]
  · rcases List.mem_cons.1 (hy.mem_iff.1 hq) with rfl | hq
    · exact hx
    · exact h5 q (he.mem_iff.2 (List.mem_cons_of_mem _ hq))
  · exact ((hy.map Prod.fst).nodup_iff).2 (List.nodup_cons.2 ⟨hnB, (List.nodup_cons.1 hkn).2⟩)

theorem Home.made (w : World) : Home (w.alloc (.map #[] 0)) w.heap.size [] := by
  refine ⟨⟨.map [], World.ownsMap_made w _ _ _, rfl, fun x _ => by simp [Go.Maps.has], by simp⟩, by simp, by simp⟩

end Go.Proofs.Ytnbgnjpjdplocaa.Q10
