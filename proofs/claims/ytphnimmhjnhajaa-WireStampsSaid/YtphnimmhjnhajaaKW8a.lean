/-
  Layer 8: groups that came in: what lies where.
-/
import Derived.Test.YtphnimmhjnhajaaKA
import Derived.Test.YtphnimmhjnhajaaRows
import Derived.WalkKit
import Derived.ProofKit
import Derived.OpenShut
import Derived.ChangeOld
import Derived.ChangeArms
import Derived.ChangeSame
import Derived.WideShapes
import Derived.Deep.Slices
namespace Go.Proofs.Ytphnimmhjnhajaa.W8
open Go.RowKit Go.ChangeShapes Go.WideShapes M8
set_option linter.unusedVariables false

/-! ### Lists of cells -/
theorem flat_len {α : Type} {f : α → List Value} {c : Nat} : ∀ (l : List α), (∀ x ∈ l, (f x).length = c) → (l.flatMap f).length = l.length * c := by
  intro l
  induction l with
  | nil => intro _; simp
  | cons a l ih =>
    intro h
    rw [List.flatMap_cons, List.length_append, h a (by simp), ih (fun x hx => h x (by simp [hx])), List.length_cons, Nat.succ_mul]
    omega
theorem flat_get {α : Type} {f : α → List Value} {c : Nat} : ∀ (l : List α), (∀ x ∈ l, (f x).length = c) → ∀ (i : Nat) (hi : i < l.length) (r : Nat), r < c → (l.flatMap f)[i * c + r]? = (f l[i])[r]? := by
  intro l
  induction l with
  | nil => intro _ i hi; simp at hi
  | cons a l ih =>
    intro h i hi r hr
    have ha := h a (by simp)
    rw [List.flatMap_cons]
    cases i with
    | zero =>
      rw [List.getElem?_append_left (by omega)]
      simp
    | succ i =>
      rw [List.getElem?_append_right (by rw [ha, Nat.succ_mul]; omega), ha, show (i + 1) * c + r - c = i * c + r by rw [Nat.succ_mul]; omega]
      rw [ih (fun x hx => h x (by simp [hx])) i (by simpa using hi) r hr]
      simp

section
variable {H : Type} {enc : TypeId × Value → H} {Q : Program} {w : World} {base : Nat} {spare : Nat → Bool} {held : Bool}
/-- A SLICE THAT CAME IN, WHATEVER ITS ELEMENTS, of c cells each. -/
theorem open_flat {α : Type} {t e : TypeId} {c : Nat} {fuel : Nat} {cs : List Value} {x : DataW H × List MemPlace} (ht : Q.underlying t = some (.slice e)) (hc : Q.cellsOf e = c) (hc0 : 0 < c) (f : α → List Value) (R : α → Prop) (hf : ∀ a, (f a).length = c)
    (hel : ∀ n cs x, DataW.trod enc Q w base spare held n e cs = some x → ∃ a, cs = f a ∧ R a) (h : DataW.trod enc Q w base spare held fuel t cs = some x) :
    ∃ (A : Option Addr) (l : List α) (cap : Nat), cs = [.slice A l.length cap] ∧ l.length ≤ cap ∧ cap ≤ maxLen ∧ Rd w A (l.flatMap f) ∧ ∀ a ∈ l, R a := by
  rcases Go.Deep.open_slice ht h with ⟨rfl, _⟩ | ⟨a, len, cap, m, n, D, Pl, rfl, hb, hl, hm, hmm, _, hx⟩
  · exact ⟨none, [], 0, rfl, Nat.le_refl _, Nat.zero_le _, .inl rfl, by simp⟩
  have hlm : len ≤ m := by rw [hmm]; split <;> omega
  have each : ∀ i, i < len → ∃ y : α, R y ∧ ∀ r, r < c → w.cell? ((a.add (i * c)).add r) = (f y)[r]? := by
    intro i hi
    obtain ⟨cs', h1, h2⟩ := hx i (by omega)
    rw [hc] at h1
    obtain ⟨_, hlen, hcell⟩ := World.cells?_some h1
    obtain ⟨y, rfl, hy⟩ := hel _ _ _ h2
    exact ⟨y, hy, hcell⟩
  have pick : ∀ k, k ≤ len → ∃ l : List α, l.length = k ∧ (∀ y ∈ l, R y) ∧ ∀ i (hi : i < l.length) r, r < c → w.cell? ((a.add (i * c)).add r) = (f l[i])[r]? := by
    intro k
    induction k with
    | zero => intro _; exact ⟨[], rfl, by simp, fun i hi => by simp at hi⟩
    | succ k ih =>
      intro hk
      obtain ⟨l, h1, h2, h3⟩ := ih (by omega)
      obtain ⟨y, hy, hc1⟩ := each k (by omega)
      refine ⟨l ++ [y], by simp [h1], fun z hz => (List.mem_append.1 hz).elim (h2 z) (fun e => by rw [List.mem_singleton.1 e]; exact hy), fun i hi r hr => ?_⟩
      by_cases hik : i < l.length
      · rw [List.getElem_append_left hik]; exact h3 i hik r hr
      · obtain rfl : i = l.length := by simp at hi; omega
        rw [List.getElem_append_right (Nat.le_refl _)]
        simp only [Nat.sub_self, List.getElem_cons_zero]
        rw [h1]; exact hc1 r hr
  obtain ⟨l, h1, h2, h3⟩ := pick len (Nat.le_refl _)
  refine ⟨some a, l, cap, by rw [h1], by omega, hm, ?_, h2⟩
  obtain ⟨b, off, spot⟩ := a
  by_cases h0 : l = []
  · subst h0; exact .inl rfl
  have hlp : 0 < l.length := List.length_pos_iff.2 h0
  have hfl := fun (x : α) (_ : x ∈ l) => hf x
  have hz := h3 0 hlp 0 hc0
  have hz2 : ((f l[0])[0]?) = some ((f l[0])[0]'(by rw [hf]; exact hc0)) := List.getElem?_eq_getElem _
  rw [hz2] at hz
  have hs : spot = none := by simpa [Addr.add] using World.cell?_spot hz
  subst hs
  refine .inr ⟨b, off, rfl, ?_, fun j hj => ?_⟩
  · have := World.block_lt_of_cell? w _ hz
    rw [add_none, add_none] at this
    exact this
  · rw [flat_len l hfl] at hj
    have hdm := Nat.div_add_mod j c
    have hr := Nat.mod_lt j hc0
    have hi : j / c < l.length := Nat.div_lt_of_lt_mul (by rw [Nat.mul_comm]; exact hj)
    have hj2 : j / c * c + j % c = j := by rw [Nat.mul_comm]; exact hdm
    have h4 := h3 (j / c) hi (j % c) hr
    rw [add_none, add_none, show off + j / c * c + j % c = off + j by omega] at h4
    rw [h4, ← flat_get l hfl (j / c) hi (j % c) hr]
    simp only [hj2]
    exact List.getElem?_eq_getElem _
end

def stampC (s : Int × Int) : List Value := [.int .i64 s.1, .int .i64 s.2]
def idC (x : Id3) : List Value := [.int .i64 x.1, .int .i64 x.2.1, .int .i64 x.2.2]
def in64 (z : Int) : Prop := -9223372036854775808 ≤ z ∧ z ≤ 9223372036854775807
def stampR (s : Int × Int) : Prop := in64 s.1 ∧ in64 s.2
def idR (x : Id3) : Prop := in64 x.1 ∧ in64 x.2.1 ∧ in64 x.2.2
/-- An operation, and where its lists lie. -/
structure OpR where
  o : Opn
  dA : Option Addr
  dc : Nat
  eA : Option Addr
  ec : Nat
def OpR.cells (x : OpR) : List Value :=
  [.int .i64 x.o.kind, .int .i64 x.o.node.1, .int .i64 x.o.node.2.1, .int .i64 x.o.node.2.2, .int .i64 x.o.parent.1, .int .i64 x.o.parent.2.1, .int .i64 x.o.parent.2.2, .string (bs x.o.name), .bool x.o.dir, .slice x.dA x.o.dots.length x.dc,
    .int .i64 x.o.after.1, .int .i64 x.o.after.2.1, .int .i64 x.o.after.2.2, .int .i64 x.o.elem.1, .int .i64 x.o.elem.2.1, .int .i64 x.o.elem.2.2, .string (bs x.o.text), .slice x.eA x.o.elems.length x.ec]
def OpR.val (x : OpR) : Value := .agg x.cells.toArray
structure OpAt (w : World) (x : OpR) : Prop where
  dots : Rd w x.dA (x.o.dots.flatMap stampC)
  elems : Rd w x.eA (x.o.elems.flatMap idC)
  dcap : x.o.dots.length ≤ x.dc ∧ x.dc ≤ 9223372036854775807
  ecap : x.o.elems.length ≤ x.ec ∧ x.ec ≤ 9223372036854775807
  kindR : in64 x.o.kind
  nodeR : idR x.o.node
  parentR : idR x.o.parent
  afterR : idR x.o.after
  elemR : idR x.o.elem
  dotsR : ∀ s ∈ x.o.dots, stampR s
  elemsR : ∀ s ∈ x.o.elems, idR s
  nameR : x.o.name.length ≤ 9223372036854775807
  textR : x.o.text.length ≤ 9223372036854775807
/-- A group, and where its lists lie. -/
structure GrpR where
  t : Int
  r : Int
  n : Int
  deps : List Int
  ut : Int
  ur : Int
  xs : List OpR
  dA : Option Addr
  dc : Nat
  oA : Option Addr
  oc : Nat
def GrpR.g (G : GrpR) : Grp := ⟨G.t, G.r, G.n, G.deps, G.ut, G.ur, G.xs.map OpR.o⟩
def GrpR.cells (G : GrpR) : List Value := [.int .i64 G.t, .int .i64 G.r, .int .i64 G.n, .slice G.dA G.deps.length G.dc, .int .i64 G.ut, .int .i64 G.ur, .slice G.oA G.xs.length G.oc]
def GrpR.val (G : GrpR) : Value := .agg #[.int .i64 G.t, .int .i64 G.r, .int .i64 G.n, .slice G.dA G.deps.length G.dc, .int .i64 G.ut, .int .i64 G.ur, .slice G.oA G.xs.length G.oc]
structure GrpAt (w : World) (G : GrpR) : Prop where
  deps : Rd w G.dA (G.deps.map (Value.int .i64))
  ops : Rd w G.oA (G.xs.flatMap OpR.cells)
  each : ∀ x ∈ G.xs, OpAt w x
  dcap : G.deps.length ≤ G.dc ∧ G.dc ≤ 9223372036854775807
  ocap : G.xs.length ≤ G.oc ∧ G.oc ≤ 9223372036854775807
  tR : in64 G.t
  rR : in64 G.r
  nR : in64 G.n
  utR : in64 G.ut
  urR : in64 G.ur
  depsR : ∀ z ∈ G.deps, in64 z
theorem OpAt.keep {w w' : World} {x : OpR} (h : OpAt w x) (hb : Below w.heap.size w w') : OpAt w' x := { h with dots := h.dots.keep hb, elems := h.elems.keep hb }
theorem GrpAt.keep {w w' : World} {G : GrpR} (h : GrpAt w G) (hb : Below w.heap.size w w') : GrpAt w' G := { h with deps := h.deps.keep hb, ops := h.ops.keep hb, each := fun x hx => (h.each x hx).keep hb }

theorem i64_in {x : Int} (h : (Lit.int .i64 x).wf = true) : in64 x := by
  unfold in64
  simpa [Lit.wf, IntKind.min, IntKind.max, IntKind.signed, IntKind.bits] using h
theorem cellsInt : Try.prog.cellsOf 3 = 1 := by kernel_rfl
theorem cellsStamp : Try.prog.cellsOf 23 = 2 := by kernel_rfl
theorem cellsId : Try.prog.cellsOf 40 = 3 := by kernel_rfl
theorem cellsStr : Try.prog.cellsOf 9 = 1 := by kernel_rfl
theorem cellsBool : Try.prog.cellsOf 4 = 1 := by kernel_rfl
theorem cellsInts : Try.prog.cellsOf 24 = 1 := by kernel_rfl
theorem cellsDots : Try.prog.cellsOf 41 = 1 := by kernel_rfl
theorem cellsElems : Try.prog.cellsOf 42 = 1 := by kernel_rfl
theorem cellsOps : Try.prog.cellsOf 25 = 1 := by kernel_rfl
theorem cellsOp : Try.prog.cellsOf 44 = 18 := by kernel_rfl
theorem cellsGrp : Try.prog.cellsOf 27 = 7 := by kernel_rfl
theorem maxLen_is : maxLen = 9223372036854775807 := by decide

section
variable {H : Type} {enc : TypeId × Value → H} {W : World} {base : Nat} {spare : Nat → Bool} {held : Bool}
theorem open_stampC {n : Nat} {cs : List Value} {x : DataW H × List MemPlace} (h : DataW.trod enc Try.prog W base spare held n 23 cs = some x) : ∃ s, cs = stampC s ∧ stampR s := by
  obtain ⟨y0, y1, m, _, hl, k0, k1⟩ := trod_struct2 Try.underlying23 h
  rw [cellsStamp] at hl
  rw [cellsInt] at k0 k1
  obtain ⟨c0, c1, rfl⟩ : ∃ c0 c1, cs = [c0, c1] := by
    match cs, hl with
    | [a, b], _ => exact ⟨a, b, rfl⟩
  replace k0 : DataW.trod enc Try.prog W base spare held m 3 [c0] = some y0 := k0
  replace k1 : DataW.trod enc Try.prog W base spare held m 3 [c1] = some y1 := k1
  obtain ⟨t, e0, _, w0⟩ := DataW.trod_int Try.underlying3 k0
  obtain ⟨r, e1, _, w1⟩ := DataW.trod_int Try.underlying3 k1
  injection e0 with e0 _
  injection e1 with e1 _
  subst e0 e1
  exact ⟨(t, r), rfl, i64_in w0, i64_in w1⟩
theorem open_idC {n : Nat} {cs : List Value} {x : DataW H × List MemPlace} (h : DataW.trod enc Try.prog W base spare held n 40 cs = some x) : ∃ s, cs = idC s ∧ idR s := by
  obtain ⟨y0, y1, m, _, hl, k0, k1⟩ := trod_struct2 Try.underlying40 h
  rw [cellsId] at hl
  rw [cellsStamp] at k0
  rw [cellsInt] at k1
  obtain ⟨c0, c1, c2, rfl⟩ : ∃ c0 c1 c2, cs = [c0, c1, c2] := by
    match cs, hl with
    | [a, b, c], _ => exact ⟨a, b, c, rfl⟩
  replace k0 : DataW.trod enc Try.prog W base spare held m 23 [c0, c1] = some y0 := k0
  replace k1 : DataW.trod enc Try.prog W base spare held m 3 [c2] = some y1 := k1
  obtain ⟨s, e0, hs⟩ := open_stampC k0
  obtain ⟨i, e1, _, w1⟩ := DataW.trod_int Try.underlying3 k1
  injection e0 with e0 e2
  injection e2 with e2 _
  injection e1 with e1 _
  subst e0 e1 e2
  exact ⟨(s.1, s.2, i), rfl, hs.1, hs.2, i64_in w1⟩
theorem open_dots {n : Nat} {cs : List Value} {x : DataW H × List MemPlace} (h : DataW.trod enc Try.prog W base spare held n 41 cs = some x) :
    ∃ (A : Option Addr) (l : List (Int × Int)) (cap : Nat), cs = [.slice A l.length cap] ∧ l.length ≤ cap ∧ cap ≤ maxLen ∧ Rd W A (l.flatMap stampC) ∧ ∀ a ∈ l, stampR a :=
  open_flat Try.underlying41 cellsStamp (by omega) stampC stampR (fun _ => rfl) (fun _ _ _ h => open_stampC h) h
theorem open_elems {n : Nat} {cs : List Value} {x : DataW H × List MemPlace} (h : DataW.trod enc Try.prog W base spare held n 42 cs = some x) :
    ∃ (A : Option Addr) (l : List Id3) (cap : Nat), cs = [.slice A l.length cap] ∧ l.length ≤ cap ∧ cap ≤ maxLen ∧ Rd W A (l.flatMap idC) ∧ ∀ a ∈ l, idR a :=
  open_flat Try.underlying42 cellsId (by omega) idC idR (fun _ => rfl) (fun _ _ _ h => open_idC h) h
end

section
variable {H : Type} {enc : TypeId × Value → H} {W : World} {base : Nat} {spare : Nat → Bool} {held : Bool}
theorem list18 {α : Type} {l : List α} (h : l.length = 18) : ∃ a b c d e f g i j k m n o p q r s t, l = [a, b, c, d, e, f, g, i, j, k, m, n, o, p, q, r, s, t] := by
  match l, h with
  | [a, b, c, d, e, f, g, i, j, k, m, n, o, p, q, r, s, t], _ => exact ⟨a, b, c, d, e, f, g, i, j, k, m, n, o, p, q, r, s, t, rfl⟩
theorem list10 {α : Type} {l : List α} (h : l.length = 10) : ∃ a b c d e f g i j k, l = [a, b, c, d, e, f, g, i, j, k] := by
  match l, h with
  | [a, b, c, d, e, f, g, i, j, k], _ => exact ⟨a, b, c, d, e, f, g, i, j, k, rfl⟩
set_option maxRecDepth 100000 in
theorem open_opC {n : Nat} {cs : List Value} {x : DataW H × List MemPlace} (h : DataW.trod enc Try.prog W base spare held n 44 cs = some x) : ∃ y : OpR, cs = y.cells ∧ OpAt W y := by
  obtain ⟨xs, m, _, _, hl, hxs, hf⟩ := DataW.trod_struct Try.underlying44 h
  rw [cellsOp] at hl
  obtain ⟨a, b, c, d, e, f, g, i, j, k, m', n', o, p, q, r, s, t, rfl⟩ := list18 hl
  obtain ⟨y0, y1, y2, y3, y4, y5, y6, y7, y8, y9, rfl⟩ := list10 hxs
  have g0 := hf 0 _ rfl
  have g1 := hf 1 _ rfl
  have g2 := hf 2 _ rfl
  have g3 := hf 3 _ rfl
  have g4 := hf 4 _ rfl
  have g5 := hf 5 _ rfl
  have g6 := hf 6 _ rfl
  have g7 := hf 7 _ rfl
  have g8 := hf 8 _ rfl
  have g9 := hf 9 _ rfl
  clear hf hl hxs h
  replace g0 : DataW.trod enc Try.prog W base spare held m 3 (([a, b, c, d, e, f, g, i, j, k, m', n', o, p, q, r, s, t].drop 0).take (Try.prog.cellsOf 3)) = some y0 := g0
  rw [cellsInt] at g0
  replace g1 : DataW.trod enc Try.prog W base spare held m 40 (([a, b, c, d, e, f, g, i, j, k, m', n', o, p, q, r, s, t].drop 1).take (Try.prog.cellsOf 40)) = some y1 := g1
  rw [cellsId] at g1
  replace g2 : DataW.trod enc Try.prog W base spare held m 40 (([a, b, c, d, e, f, g, i, j, k, m', n', o, p, q, r, s, t].drop 4).take (Try.prog.cellsOf 40)) = some y2 := g2
  rw [cellsId] at g2
  replace g3 : DataW.trod enc Try.prog W base spare held m 9 (([a, b, c, d, e, f, g, i, j, k, m', n', o, p, q, r, s, t].drop 7).take (Try.prog.cellsOf 9)) = some y3 := g3
  rw [cellsStr] at g3
  replace g4 : DataW.trod enc Try.prog W base spare held m 4 (([a, b, c, d, e, f, g, i, j, k, m', n', o, p, q, r, s, t].drop 8).take (Try.prog.cellsOf 4)) = some y4 := g4
  rw [cellsBool] at g4
  replace g5 : DataW.trod enc Try.prog W base spare held m 41 (([a, b, c, d, e, f, g, i, j, k, m', n', o, p, q, r, s, t].drop 9).take (Try.prog.cellsOf 41)) = some y5 := g5
  rw [cellsDots] at g5
  replace g6 : DataW.trod enc Try.prog W base spare held m 40 (([a, b, c, d, e, f, g, i, j, k, m', n', o, p, q, r, s, t].drop 10).take (Try.prog.cellsOf 40)) = some y6 := g6
  rw [cellsId] at g6
  replace g7 : DataW.trod enc Try.prog W base spare held m 40 (([a, b, c, d, e, f, g, i, j, k, m', n', o, p, q, r, s, t].drop 13).take (Try.prog.cellsOf 40)) = some y7 := g7
  rw [cellsId] at g7
  replace g8 : DataW.trod enc Try.prog W base spare held m 9 (([a, b, c, d, e, f, g, i, j, k, m', n', o, p, q, r, s, t].drop 16).take (Try.prog.cellsOf 9)) = some y8 := g8
  rw [cellsStr] at g8
  replace g9 : DataW.trod enc Try.prog W base spare held m 42 (([a, b, c, d, e, f, g, i, j, k, m', n', o, p, q, r, s, t].drop 17).take (Try.prog.cellsOf 42)) = some y9 := g9
  rw [cellsElems] at g9
  replace g0 : DataW.trod enc Try.prog W base spare held m 3 [a] = some y0 := g0
  replace g1 : DataW.trod enc Try.prog W base spare held m 40 [b, c, d] = some y1 := g1
  replace g2 : DataW.trod enc Try.prog W base spare held m 40 [e, f, g] = some y2 := g2
  replace g3 : DataW.trod enc Try.prog W base spare held m 9 [i] = some y3 := g3
  replace g4 : DataW.trod enc Try.prog W base spare held m 4 [j] = some y4 := g4
  replace g5 : DataW.trod enc Try.prog W base spare held m 41 [k] = some y5 := g5
  replace g6 : DataW.trod enc Try.prog W base spare held m 40 [m', n', o] = some y6 := g6
  replace g7 : DataW.trod enc Try.prog W base spare held m 40 [p, q, r] = some y7 := g7
  replace g8 : DataW.trod enc Try.prog W base spare held m 9 [s] = some y8 := g8
  replace g9 : DataW.trod enc Try.prog W base spare held m 42 [t] = some y9 := g9
  obtain ⟨v0, q0, _, u0⟩ := DataW.trod_int Try.underlying3 g0
  obtain ⟨v1, q1, u1⟩ := open_idC g1
  obtain ⟨v2, q2, u2⟩ := open_idC g2
  obtain ⟨v3, q3, _, u3⟩ := DataW.trod_string Try.underlying9 g3
  obtain ⟨v4, q4, _⟩ := DataW.trod_bool Try.underlying4 g4
  obtain ⟨A5, l5, c5, q5, s5, r5, d5, u5⟩ := open_dots g5
  obtain ⟨v6, q6, u6⟩ := open_idC g6
  obtain ⟨v7, q7, u7⟩ := open_idC g7
  obtain ⟨v8, q8, _, u8⟩ := DataW.trod_string Try.underlying9 g8
  obtain ⟨A9, l9, c9, q9, s9, r9, d9, u9⟩ := open_elems g9
  rw [maxLen_is] at r5 r9 u3 u8
  refine ⟨⟨⟨v0, v1, v2, v3.data.toList, v4, l5, v6, v7, v8.data.toList, l9⟩, A5, c5, A9, c9⟩, ?_, ⟨d5, d9, ⟨s5, r5⟩, ⟨s9, r9⟩, i64_in u0, u1, u2, u6, u7, u5, u9, u3, u8⟩⟩
  unfold idC at q1 q2 q6 q7
  simp only [List.cons.injEq, and_true] at q0 q1 q2 q3 q4 q5 q6 q7 q8 q9
  obtain ⟨rfl, rfl, rfl⟩ := q1
  obtain ⟨rfl, rfl, rfl⟩ := q2
  obtain ⟨rfl, rfl, rfl⟩ := q6
  obtain ⟨rfl, rfl, rfl⟩ := q7
  subst q0 q3 q4 q5 q8 q9
  rfl
end

section
variable {H : Type} {enc : TypeId × Value → H} {W : World} {base : Nat} {spare : Nat → Bool} {held : Bool}
theorem list7 {α : Type} {l : List α} (h : l.length = 7) : ∃ a b c d e f g, l = [a, b, c, d, e, f, g] := by
  match l, h with
  | [a, b, c, d, e, f, g], _ => exact ⟨a, b, c, d, e, f, g, rfl⟩
theorem list5 {α : Type} {l : List α} (h : l.length = 5) : ∃ a b c d e, l = [a, b, c, d, e] := by
  match l, h with
  | [a, b, c, d, e], _ => exact ⟨a, b, c, d, e, rfl⟩
def intC (z : Int) : List Value := [.int .i64 z]
theorem flat_ints (l : List Int) : l.flatMap intC = l.map (Value.int .i64) := by
  induction l with
  | nil => rfl
  | cons a l ih => rw [List.flatMap_cons, ih]; rfl
theorem open_ops {n : Nat} {cs : List Value} {x : DataW H × List MemPlace} (h : DataW.trod enc Try.prog W base spare held n 25 cs = some x) :
    ∃ (A : Option Addr) (l : List OpR) (cap : Nat), cs = [.slice A l.length cap] ∧ l.length ≤ cap ∧ cap ≤ maxLen ∧ Rd W A (l.flatMap OpR.cells) ∧ ∀ a ∈ l, OpAt W a :=
  open_flat Try.underlying25 cellsOp (by omega) OpR.cells (OpAt W) (fun _ => rfl) (fun _ _ _ h => open_opC h) h
theorem open_deps {n : Nat} {cs : List Value} {x : DataW H × List MemPlace} (h : DataW.trod enc Try.prog W base spare held n 24 cs = some x) :
    ∃ (A : Option Addr) (l : List Int) (cap : Nat), cs = [.slice A l.length cap] ∧ l.length ≤ cap ∧ cap ≤ maxLen ∧ Rd W A (l.flatMap intC) ∧ ∀ a ∈ l, in64 a :=
  open_flat Try.underlying24 cellsInt (by omega) intC in64 (fun _ => rfl) (fun n cs x h => by
    obtain ⟨z, h1, _, h2⟩ := DataW.trod_int Try.underlying3 h
    exact ⟨z, h1, i64_in h2⟩) h
set_option maxRecDepth 100000 in
/-- A GROUP THAT CAME IN. -/
theorem open_grp {r : Reach} {b0 : Nat} {v : Value} {d : DataW H} {p : List MemPlace} (hv : Value.okWide Try.prog W r b0 27 v) (h : DataW.Trod enc Try.prog W base spare held 27 v d p) :
    ∃ G : GrpR, v = G.val ∧ GrpAt W G := by
  obtain ⟨⟨l⟩, rfl, hsz⟩ := okWide_struct Try.underlying27 hv
  have hsz7 : l.length = 7 := by rw [← cellsGrp]; exact hsz
  obtain ⟨a, b, c, d', e, f, g, rfl⟩ := list7 hsz7
  obtain ⟨fuel, hf0⟩ := h
  obtain ⟨xs, m, _, _, hl, hxs, hf⟩ := DataW.trod_struct Try.underlying27 hf0
  obtain ⟨y0, y1, y2, y3, y4, rfl⟩ := list5 hxs
  have g0 := hf 0 _ rfl
  have g1 := hf 1 _ rfl
  have g2 := hf 2 _ rfl
  have g3 := hf 3 _ rfl
  have g4 := hf 4 _ rfl
  clear hf hl hxs hf0
  replace g0 : DataW.trod enc Try.prog W base spare held m 23 (([a, b, c, d', e, f, g].drop 0).take (Try.prog.cellsOf 23)) = some y0 := g0
  rw [cellsStamp] at g0
  replace g1 : DataW.trod enc Try.prog W base spare held m 3 (([a, b, c, d', e, f, g].drop 2).take (Try.prog.cellsOf 3)) = some y1 := g1
  rw [cellsInt] at g1
  replace g2 : DataW.trod enc Try.prog W base spare held m 24 (([a, b, c, d', e, f, g].drop 3).take (Try.prog.cellsOf 24)) = some y2 := g2
  rw [cellsInts] at g2
  replace g3 : DataW.trod enc Try.prog W base spare held m 23 (([a, b, c, d', e, f, g].drop 4).take (Try.prog.cellsOf 23)) = some y3 := g3
  rw [cellsStamp] at g3
  replace g4 : DataW.trod enc Try.prog W base spare held m 25 (([a, b, c, d', e, f, g].drop 6).take (Try.prog.cellsOf 25)) = some y4 := g4
  rw [cellsOps] at g4
  replace g0 : DataW.trod enc Try.prog W base spare held m 23 [a, b] = some y0 := g0
  replace g1 : DataW.trod enc Try.prog W base spare held m 3 [c] = some y1 := g1
  replace g2 : DataW.trod enc Try.prog W base spare held m 24 [d'] = some y2 := g2
  replace g3 : DataW.trod enc Try.prog W base spare held m 23 [e, f] = some y3 := g3
  replace g4 : DataW.trod enc Try.prog W base spare held m 25 [g] = some y4 := g4
  obtain ⟨v0, q0, u0⟩ := open_stampC g0
  obtain ⟨v1, q1, _, u1⟩ := DataW.trod_int Try.underlying3 g1
  obtain ⟨A2, l2, c2, q2, s2, r2, d2, u2⟩ := open_deps g2
  obtain ⟨v3, q3, u3⟩ := open_stampC g3
  obtain ⟨A4, l4, c4, q4, s4, r4, d4, u4⟩ := open_ops g4
  rw [maxLen_is] at r2 r4
  rw [flat_ints] at d2
  refine ⟨⟨v0.1, v0.2, v1, l2, v3.1, v3.2, l4, A2, c2, A4, c4⟩, ?_, ⟨d2, d4, u4, ⟨s2, r2⟩, ⟨s4, r4⟩, u0.1, u0.2, i64_in u1, u3.1, u3.2, u2⟩⟩
  unfold stampC at q0 q3
  simp only [List.cons.injEq, and_true] at q0 q1 q2 q3 q4
  obtain ⟨rfl, rfl⟩ := q0
  obtain ⟨rfl, rfl⟩ := q3
  subst q1 q2 q4
  rfl
end

end Go.Proofs.Ytphnimmhjnhajaa.W8

