/-
  Layer 10: acts that came in.
-/
import Derived.Test.YtnbgnjpjdplocaaR10h
import Derived.OpenShut
import Derived.ChangeOld
import Derived.ChangeArms
import Derived.ChangeSame
import Derived.WideShapes
import Derived.Deep.Slices
namespace Go.Proofs.Ytnbgnjpjdplocaa.Q10A
open Go.RowKit Go.ChangeShapes Go.WideShapes Go.PlainAid
set_option linter.unusedVariables false
set_option linter.unusedSimpArgs false

def in64 (x : Int) : Prop := -9223372036854775808 ≤ x ∧ x ≤ 9223372036854775807
def stampC (s : Int × Int) : List Value := [.int .i64 s.1, .int .i64 s.2]
def stampR (s : Int × Int) : Prop := in64 s.1 ∧ in64 s.2
def idC (s : Int × Int × Int) : List Value := [.int .i64 s.1, .int .i64 s.2.1, .int .i64 s.2.2]
def idR (s : Int × Int × Int) : Prop := in64 s.1 ∧ in64 s.2.1 ∧ in64 s.2.2
/-! ### Lists of cells -/
theorem flat_len {α : Type} {f : α → List Value} {c : Nat} : ∀ (l : List α), (∀ x ∈ l, (f x).length = c) → (l.flatMap f).length = l.length * c := by
  intro l
  induction l with
  | nil => intro _; simp
  | cons a l ih =>
    intro h
    rw [List.flatMap_cons, List.length_append, h a (by simp), ih (fun x hx => h x (by simp [hx])), List.length_cons, Nat.succ_mul]
    omega
theorem flat_get {α : Type} {f : α → List Value} {c : Nat} : ∀ (l : List α), (∀ x ∈ l, (f x).length = c) → ∀ (i : Nat) (hi : i < l.length) (r : Nat), r < c → (l.flatMap f)[i * c + r]? = (f l[i])[r]? := by
  intro l
  induction l with
  | nil => intro _ i hi; simp at hi
  | cons a l ih =>
    intro h i hi r hr
    have ha := h a (by simp)
    rw [List.flatMap_cons]
    cases i with
    | zero =>
      rw [List.getElem?_append_left (by omega)]
      simp
    | succ i =>
      rw [List.getElem?_append_right (by rw [ha, Nat.succ_mul]; omega), ha, show (i + 1) * c + r - c = i * c + r by rw [Nat.succ_mul]; omega]
      rw [ih (fun x hx => h x (by simp [hx])) i (by simpa using hi) r hr]
      simp

section
variable {H : Type} {enc : TypeId × Value → H} {Q : Program} {w : World} {base : Nat} {spare : Nat → Bool} {held : Bool}
/-- A SLICE THAT CAME IN, WHATEVER ITS ELEMENTS, of c cells each. -/
theorem open_flat {α : Type} {t e : TypeId} {c : Nat} {fuel : Nat} {cs : List Value} {x : DataW H × List MemPlace} (ht : Q.underlying t = some (.slice e)) (hc : Q.cellsOf e = c) (hc0 : 0 < c) (f : α → List Value) (R : α → Prop) (hf : ∀ a, (f a).length = c)
    (hel : ∀ n cs x, DataW.trod enc Q w base spare held n e cs = some x → ∃ a, cs = f a ∧ R a) (h : DataW.trod enc Q w base spare held fuel t cs = some x) :
    ∃ (A : Option Addr) (l : List α) (cap : Nat), cs = [.slice A l.length cap] ∧ l.length ≤ cap ∧ cap ≤ maxLen ∧ Rd w A (l.flatMap f) ∧ ∀ a ∈ l, R a := by
  rcases Go.Deep.open_slice ht h with ⟨rfl, _⟩ | ⟨a, len, cap, m, n, D, Pl, rfl, hb, hl, hm, hmm, _, hx⟩
  · exact ⟨none, [], 0, rfl, Nat.le_refl _, Nat.zero_le _, .inl rfl, by simp⟩
  have hlm : len ≤ m := by rw [hmm]; split <;> omega
  have each : ∀ i, i < len → ∃ y : α, R y ∧ ∀ r, r < c → w.cell? ((a.add (i * c)).add r) = (f y)[r]? := by
    intro i hi
    obtain ⟨cs', h1, h2⟩ := hx i (by omega)
    rw [hc] at h1
    obtain ⟨_, hlen, hcell⟩ := World.cells?_some h1
    obtain ⟨y, rfl, hy⟩ := hel _ _ _ h2
    exact ⟨y, hy, hcell⟩
  have pick : ∀ k, k ≤ len → ∃ l : List α, l.length = k ∧ (∀ y ∈ l, R y) ∧ ∀ i (hi : i < l.length) r, r < c → w.cell? ((a.add (i * c)).add r) = (f l[i])[r]? := by
    intro k
    induction k with
    | zero => intro _; exact ⟨[], rfl, by simp, fun i hi => by simp at hi⟩
    | succ k ih =>
      intro hk
      obtain ⟨l, h1, h2, h3⟩ := ih (by omega)
      obtain ⟨y, hy, hc1⟩ := each k (by omega)
      refine ⟨l ++ [y], by simp [h1], fun z hz => (List.mem_append.1 hz).elim (h2 z) (fun e => by rw [List.mem_singleton.1 e]; exact hy), fun i hi r hr => ?_⟩
      by_cases hik : i < l.length
      · rw [List.getElem_append_left hik]; exact h3 i hik r hr
      · obtain rfl : i = l.length := by simp at hi; omega
        rw [List.getElem_append_right (Nat.le_refl _)]
        simp only [Nat.sub_self, List.getElem_cons_zero]
        rw [h1]; exact hc1 r hr
  obtain ⟨l, h1, h2, h3⟩ := pick len (Nat.le_refl _)
  refine ⟨some a, l, cap, by rw [h1], by omega, hm, ?_, h2⟩
  obtain ⟨b, off, spot⟩ := a
  by_cases h0 : l = []
  · subst h0; exact .inl rfl
  have hlp : 0 < l.length := List.length_pos_iff.2 h0
  have hfl := fun (x : α) (_ : x ∈ l) => hf x
  have hz := h3 0 hlp 0 hc0
  have hz2 : ((f l[0])[0]?) = some ((f l[0])[0]'(by rw [hf]; exact hc0)) := List.getElem?_eq_getElem _
  rw [hz2] at hz
  have hs : spot = none := by simpa [Addr.add] using World.cell?_spot hz
  subst hs
  refine .inr ⟨b, off, rfl, ?_, fun j hj => ?_⟩
  · have := World.block_lt_of_cell? w _ hz
    rw [add_none, add_none] at this
    exact this
  · rw [flat_len l hfl] at hj
    have hdm := Nat.div_add_mod j c
    have hr := Nat.mod_lt j hc0
    have hi : j / c < l.length := Nat.div_lt_of_lt_mul (by rw [Nat.mul_comm]; exact hj)
    have hj2 : j / c * c + j % c = j := by rw [Nat.mul_comm]; exact hdm
    have h4 := h3 (j / c) hi (j % c) hr
    rw [add_none, add_none, show off + j / c * c + j % c = off + j by omega] at h4
    rw [h4, ← flat_get l hfl (j / c) hi (j % c) hr]
    simp only [hj2]
    exact List.getElem?_eq_getElem _
end

theorem i64_in {x : Int} (h : (Lit.int .i64 x).wf = true) : in64 x := by
  unfold in64
  simpa [Lit.wf, IntKind.min, IntKind.max, IntKind.signed, IntKind.bits] using h
theorem cellsInt : Try.prog.cellsOf 3 = 1 := by kernel_rfl
theorem cellsStamp : Try.prog.cellsOf 33 = 2 := by kernel_rfl
theorem cellsId : Try.prog.cellsOf 35 = 3 := by kernel_rfl
theorem cellsBool : Try.prog.cellsOf 4 = 1 := by kernel_rfl
theorem cellsAct : Try.prog.cellsOf 37 = 6 := by kernel_rfl

/-- An act. -/
structure ActR where
  a : Int
  at_ : Int
  x : Int × Int × Int
  q : Bool
def ActR.cells (y : ActR) : List Value := [.int .i64 y.a, .int .i64 y.at_, .int .i64 y.x.1, .int .i64 y.x.2.1, .int .i64 y.x.2.2, .bool y.q]
def ActR.ok (y : ActR) : Prop := in64 y.at_ ∧ idR y.x
section
variable {H : Type} {enc : TypeId × Value → H} {W : World} {base : Nat} {spare : Nat → Bool} {held : Bool}
theorem list6 {α : Type} {l : List α} (h : l.length = 6) : ∃ a b c d e f, l = [a, b, c, d, e, f] := by
  match l, h with
  | [a, b, c, d, e, f], _ => exact ⟨a, b, c, d, e, f, rfl⟩
theorem list4 {α : Type} {l : List α} (h : l.length = 4) : ∃ a b c d, l = [a, b, c, d] := by
  match l, h with
  | [a, b, c, d], _ => exact ⟨a, b, c, d, rfl⟩
theorem open_stampC {n : Nat} {cs : List Value} {x : DataW H × List MemPlace} (h : DataW.trod enc Try.prog W base spare held n 33 cs = some x) : ∃ s, cs = stampC s ∧ stampR s := by
  obtain ⟨y0, y1, m, _, hl, k0, k1⟩ := trod_struct2 Try.underlying33 h
  rw [cellsStamp] at hl
  rw [cellsInt] at k0 k1
  obtain ⟨c0, c1, rfl⟩ : ∃ c0 c1, cs = [c0, c1] := by
    match cs, hl with
    | [a, b], _ => exact ⟨a, b, rfl⟩
  replace k0 : DataW.trod enc Try.prog W base spare held m 3 [c0] = some y0 := k0
  replace k1 : DataW.trod enc Try.prog W base spare held m 3 [c1] = some y1 := k1
  obtain ⟨t, e0, _, w0⟩ := DataW.trod_int Try.underlying3 k0
  obtain ⟨r, e1, _, w1⟩ := DataW.trod_int Try.underlying3 k1
  injection e0 with e0 _
  injection e1 with e1 _
  subst e0 e1
  exact ⟨(t, r), rfl, i64_in w0, i64_in w1⟩
theorem open_idC {n : Nat} {cs : List Value} {x : DataW H × List MemPlace} (h : DataW.trod enc Try.prog W base spare held n 35 cs = some x) : ∃ s, cs = idC s ∧ idR s := by
  obtain ⟨y0, y1, m, _, hl, k0, k1⟩ := trod_struct2 Try.underlying35 h
  rw [cellsId] at hl
  rw [cellsStamp] at k0
  rw [cellsInt] at k1
  obtain ⟨c0, c1, c2, rfl⟩ : ∃ c0 c1 c2, cs = [c0, c1, c2] := by
    match cs, hl with
    | [a, b, c], _ => exact ⟨a, b, c, rfl⟩
  replace k0 : DataW.trod enc Try.prog W base spare held m 33 [c0, c1] = some y0 := k0
  replace k1 : DataW.trod enc Try.prog W base spare held m 3 [c2] = some y1 := k1
  obtain ⟨s, e0, hs⟩ := open_stampC k0
  obtain ⟨i, e1, _, w1⟩ := DataW.trod_int Try.underlying3 k1
  injection e0 with e0 e2
  injection e2 with e2 _
  injection e1 with e1 _
  subst e0 e1 e2
  exact ⟨(s.1, s.2, i), rfl, hs.1, hs.2, i64_in w1⟩
set_option maxRecDepth 100000 in
theorem open_act {n : Nat} {cs : List Value} {x : DataW H × List MemPlace} (h : DataW.trod enc Try.prog W base spare held n 37 cs = some x) : ∃ y : ActR, cs = y.cells ∧ y.ok := by
  obtain ⟨xs, m, _, _, hl, hxs, hf⟩ := DataW.trod_struct Try.underlying37 h
  rw [cellsAct] at hl
  obtain ⟨a, b, c, d, e, f, rfl⟩ := list6 hl
  obtain ⟨y0, y1, y2, y3, rfl⟩ := list4 hxs
  have g0 := hf 0 _ rfl
  have g1 := hf 1 _ rfl
  have g2 := hf 2 _ rfl
  have g3 := hf 3 _ rfl
  clear hf hl hxs h
  replace g0 : DataW.trod enc Try.prog W base spare held m 3 (([a, b, c, d, e, f].drop 0).take (Try.prog.cellsOf 3)) = some y0 := g0
  rw [cellsInt] at g0
  replace g1 : DataW.trod enc Try.prog W base spare held m 3 (([a, b, c, d, e, f].drop 1).take (Try.prog.cellsOf 3)) = some y1 := g1
  rw [cellsInt] at g1
  replace g2 : DataW.trod enc Try.prog W base spare held m 35 (([a, b, c, d, e, f].drop 2).take (Try.prog.cellsOf 35)) = some y2 := g2
  rw [cellsId] at g2
  replace g3 : DataW.trod enc Try.prog W base spare held m 4 (([a, b, c, d, e, f].drop 5).take (Try.prog.cellsOf 4)) = some y3 := g3
  rw [cellsBool] at g3
  replace g0 : DataW.trod enc Try.prog W base spare held m 3 [a] = some y0 := g0
  replace g1 : DataW.trod enc Try.prog W base spare held m 3 [b] = some y1 := g1
  replace g2 : DataW.trod enc Try.prog W base spare held m 35 [c, d, e] = some y2 := g2
  replace g3 : DataW.trod enc Try.prog W base spare held m 4 [f] = some y3 := g3
  obtain ⟨v0, q0, _, u0⟩ := DataW.trod_int Try.underlying3 g0
  obtain ⟨v1, q1, _, u1⟩ := DataW.trod_int Try.underlying3 g1
  obtain ⟨v2, q2, u2⟩ := open_idC g2
  obtain ⟨v3, q3, _⟩ := DataW.trod_bool Try.underlying4 g3
  refine ⟨⟨v0, v1, v2, v3⟩, ?_, i64_in u1, u2⟩
  unfold idC at q2
  simp only [List.cons.injEq, and_true] at q0 q1 q2 q3
  obtain ⟨rfl, rfl, rfl⟩ := q2
  subst q0 q1 q3
  rfl
theorem open_acts {r : Reach} {b0 : Nat} {v : Value} {d : DataW H} {p : List MemPlace} (hv : Value.okWide Try.prog W r b0 22 v) (h : DataW.Trod enc Try.prog W base spare held 22 v d p) :
    ∃ (A : Option Addr) (l : List ActR) (cap : Nat), v = .slice A l.length cap ∧ l.length ≤ 9223372036854775807 ∧ Rd W A (l.flatMap ActR.cells) ∧ ∀ y ∈ l, y.ok := by
  obtain ⟨A0, n0, c0, rfl⟩ := okWide_slice Try.underlying22 hv
  obtain ⟨fuel, hf0⟩ := h
  obtain ⟨A, l, cap, e, h1, h2, h3, h4⟩ := open_flat Try.underlying22 cellsAct (by omega) ActR.cells ActR.ok (fun _ => rfl) (fun _ _ _ h => open_act h) hf0
  simp [Value.cells] at e
  obtain ⟨rfl, rfl, rfl⟩ := e
  have : maxLen = 9223372036854775807 := by decide
  exact ⟨A0, l, c0, rfl, by omega, h3, h4⟩
end
theorem act_cells {w : World} {A : Option Addr} {l : List ActR} (h : Rd w A (l.flatMap ActR.cells)) {k : Nat} (hk : k < l.length) :
    ∃ b off, A = some ⟨b, off, none⟩ ∧ b < w.heap.size ∧ w.cell? ⟨b, off + k * 6, none⟩ = some (.int .i64 l[k].a) ∧ w.cell? ⟨b, off + k * 6 + 1, none⟩ = some (.int .i64 l[k].at_) ∧ w.cell? ⟨b, off + k * 6 + 2, none⟩ = some (.int .i64 l[k].x.1) ∧ w.cell? ⟨b, off + k * 6 + 3, none⟩ = some (.int .i64 l[k].x.2.1) ∧ w.cell? ⟨b, off + k * 6 + 4, none⟩ = some (.int .i64 l[k].x.2.2) ∧ w.cell? ⟨b, off + k * 6 + 5, none⟩ = some (.bool l[k].q) := by
  have hl := flat_len (f := ActR.cells) (c := 6) l (fun _ _ => rfl)
  have hg := flat_get (f := ActR.cells) (c := 6) l (fun _ _ => rfl) k hk
  rcases h with h | ⟨b, off, e, hb, hc⟩
  · rw [h] at hl; simp at hl; omega
  · have key : ∀ r, r < 6 → w.cell? ⟨b, off + k * 6 + r, none⟩ = (l[k].cells)[r]? := fun r hr => by
      have h1 := hc (k * 6 + r) (by omega)
      have h2 := hg r hr
      rw [List.getElem?_eq_getElem (by omega)] at h2
      rw [Nat.add_assoc, h1, h2]
    exact ⟨b, off, e, hb, key 0 (by omega), key 1 (by omega), key 2 (by omega), key 3 (by omega), key 4 (by omega), key 5 (by omega)⟩

end Go.Proofs.Ytnbgnjpjdplocaa.Q10A
