/-
  Layer 6, walks: the document's Find.
-/
import Derived.Test.YtpdghmecodlhhaaP6k
namespace Go.Proofs.Ytpdghmecodlhhaa.P6
open Go.RowKit Go.PlainAid M6
set_option linter.unusedVariables false

set_option maxRecDepth 100000 in
set_option maxHeartbeats 400000 in
theorem refFind_bad {l : List UInt8} (h : Bad l) (hz : l.length ≤ 1099511627776) (n : ByteArray) (w : World) :
    Calls Try.prog 20 #[.string (bs l), .string n] w fun e w' => e = .returned (.tuple #[.slice none 0 0, .int .i64 60]) ∧ Below w.heap.size w w' := by
  have HR := Lib.hid (refSplit_bad h hz)
  clear h hz
  generalize bs l = s at *
  go_enter Try.func20, Try.ntmps20
  go_wp2_with fail
  refine (HR.out _).mono ?_
  rintro e w1 ⟨rfl, hb⟩
  go_wp2
  go_ret2
  exact ⟨rfl, hb⟩

set_option maxRecDepth 100000 in
set_option maxHeartbeats 400000 in
theorem refFind_noid {cs : List Nat} (h : Txt cs) (hz : (flat cs).length ≤ 1099511627776) {nm : List UInt8} (hn : identB nm = false) (hz2 : nm.length ≤ 1099511627776) (w : World) :
    Calls Try.prog 20 #[.string (bs (flat cs)), .string (bs nm)] w fun e w' => e = .returned (.tuple #[.slice none 0 0, .int .i64 61]) ∧ Below w.heap.size w w' := by
  have HR := Lib.hid (refSplit_good h hz)
  have hid := refIdent_any nm hz2
  rw [hn] at hid
  have HI := Lib.hid hid
  clear h hz hid hn
  generalize bs (flat cs) = s at *
  go_enter Try.func20, Try.ntmps20
  go_wp2_with fail
  refine (HR.out _).mono ?_
  rintro e w1 ⟨A, c, rfl, hr, hc, hb⟩
  clear hr HR
  go_wp2_with fail
  refine (HI.out _).mono ?_
  rintro e w2 ⟨rfl, rfl⟩
  go_wp2
  go_ret2
  exact ⟨rfl, hb⟩

/-- Spans in memory: two cells each. -/
def spc (ps : List (Nat × Nat)) : List Value := ps.flatMap fun p => [Value.int .i64 (p.1 : Int), Value.int .i64 (p.2 : Int)]
theorem spc_len (ps : List (Nat × Nat)) : (spc ps).length = ps.length * 2 := by
  induction ps with
  | nil => rfl
  | cons p ps ih => unfold spc at ih ⊢; rw [List.flatMap_cons, List.length_append, ih, List.length_cons]; simp; omega
theorem spc_snoc (ps : List (Nat × Nat)) (p : Nat × Nat) : spc (ps ++ [p]) = spc ps ++ [Value.int .i64 (p.1 : Int), Value.int .i64 (p.2 : Int)] := by simp [spc]
theorem spc_get : ∀ {ps : List (Nat × Nat)} {k : Nat} (h : k < ps.length), (spc ps)[k * 2]? = some (Value.int .i64 (ps[k].1 : Int)) ∧ (spc ps)[k * 2 + 1]? = some (Value.int .i64 (ps[k].2 : Int)) := by
  intro ps
  induction ps with
  | nil => intro k h; simp at h
  | cons p ps ih =>
    intro k h
    cases k with
    | zero => exact ⟨rfl, rfl⟩
    | succ k =>
      have := ih (k := k) (by simpa using h)
      have e : spc (p :: ps) = Value.int .i64 (p.1 : Int) :: Value.int .i64 (p.2 : Int) :: spc ps := rfl
      rw [e, show (k + 1) * 2 = k * 2 + 2 by omega]
      exact this
theorem cell_two_new (w : World) (x y : Value) (t : TypeId) : ∀ j u, [x, y][j]? = some u → (w.alloc (.cells #[x, y] t)).cell? ((⟨w.heap.size, 0, none⟩ : Addr).add j) = some u := by
  intro j u hu
  rw [add_none, Nat.zero_add]
  have := World.cell?_alloc_mark w #[x, y] t (0, 0) j
  rw [this]
  match j, hu with
  | 0, hu => exact hu
  | 1, hu => exact hu
  | j + 2, hu => simp at hu
theorem Rd.of_two {w : World} {B : Nat} {e : TypeId} {v : Value} {n : Nat} {xs : List Value} (h : w.ownsRow B e 2 v n xs) : ∃ A c, v = .slice A n c ∧ Rd w A xs ∧ n ≤ c := by
  rcases h.2 with ⟨rfl, rfl⟩ | ⟨g, cap, cur, rfl, _, hh, hnc, _, hsz, ht⟩
  · exact ⟨none, 0, rfl, .inl (List.eq_nil_of_length_eq_zero (by have := h.1; omega)), Nat.le_refl _⟩
  · refine ⟨some ⟨g, 0, none⟩, cap, rfl, .inr ⟨g, 0, rfl, (Array.getElem?_eq_some_iff.1 hh).1, fun j hj => ?_⟩, hnc⟩
    have := h.cells (g := g) rfl j xs[j] (List.getElem?_eq_getElem hj)
    rw [add_none] at this
    exact this
theorem info_span : (Try.prog.info? 42).map (fun i => (i.zero, i.size, i.bytes)) = some (some (.agg #[.int .i64 0, .int .i64 0]), 2, 16) := by kernel_rfl

/-- Does a row begin at i, if a part stands there? -/
def fr (cs : List Nat) (i : Nat) : Bool := i == 0 || !partN (cs.getD (i - 1) 0)
theorem fr_next {cs : List Nat} {i : Nat} (h : i < cs.length) : fr cs (i + 1) = !partN cs[i] := by
  unfold fr
  simp [List.getD, List.getElem?_eq_getElem h]

/-- WHAT THE OUTER LOOP OF THE DOCUMENT's Find KEEPS. -/
def RfRel (nm cs : List Nat) (w1 : World) (v si : Value) (wr : World) : Prop :=
  ∃ (i : Nat) (ps : List (Nat × Nat)), i ≤ cs.length ∧ si = .int .i64 (i : Int) ∧ ps ++ spansD nm (fr cs i) i (cs.drop i) = found nm cs ∧ wr.ownsRow w1.heap.size 42 2 v ps.length (spc ps) ∧ Below w1.heap.size w1 wr
/-- What the document's Find answers of a text and an identifier. -/
def Found2 (nm cs : List Nat) (w : World) (e : Ending) (w' : World) : Prop :=
  ∃ A c, e = .returned (.tuple #[.slice A (found nm cs).length c, .int .i64 0]) ∧ Rd w' A (spc (found nm cs)) ∧ Below w.heap.size w w'
theorem found_D (nm cs : List Nat) : spansD nm (fr cs 0) 0 (cs.drop 0) = found nm cs := rfl
/-- How far the inner loop has come. -/
def InRow (cs : List Nat) (i k : Nat) : Prop := i ≤ k ∧ k ≤ cs.length ∧ ∀ c ∈ (cs.drop i).take (k - i), partN c = true
theorem InRow.step {cs : List Nat} {i k : Nat} (h : InRow cs i k) (hk : k < cs.length) (hp : partN cs[k] = true) : InRow cs i (k + 1) := by
  obtain ⟨h1, h2, h3⟩ := h
  refine ⟨by omega, by omega, ?_⟩
  intro c hc
  rw [show k + 1 - i = (k - i) + 1 by omega, List.take_succ_eq_append_getElem (by rw [List.length_drop]; omega)] at hc
  rcases List.mem_append.1 hc with hc | hc
  · exact h3 c hc
  · rw [List.mem_singleton.1 hc, List.getElem_drop]
    have : i + (k - i) = k := by omega
    simp only [this]
    exact hp

end Go.Proofs.Ytpdghmecodlhhaa.P6
