/-
  Layer 5: what the rows' list of variables gives of Env; an id that came in.
-/
import Derived.Test.YthecofkkacieaaaDoorS5k
import Derived.Test.YthecofkkacieaaaDoorRows
import Derived.WalkKit
import Derived.ProofKit
import Derived.OpenShut
import Derived.ChangeOld
import Derived.ChangeArms
import Derived.ChangeSame
import Derived.WideShapes
import Derived.Lib.LaidTab
import Derived.LaidLaws
import Derived.MakeChecks
import Derived.Stop.LaidErr
namespace Go.Proofs.YthecofkkacieaaaDoor.S5
open Go.RowKit Go.ChangeShapes Go.WideShapes
set_option linter.unusedVariables false

theorem gPowType : (Tryd.prog.globals[5]?).map (·.type) = some 110 := by kernel_rfl
theorem gSyn : Tryd.prog.globalNamed "strconv.ErrSyntax" = some 1 := by kernel_rfl
theorem gSynType : (Tryd.prog.globals[1]?).map (·.type) = some 56 := by kernel_rfl
theorem gRan : Tryd.prog.globalNamed "strconv.ErrRange" = some 2 := by kernel_rfl
theorem gRanType : (Tryd.prog.globals[2]?).map (·.type) = some 56 := by kernel_rfl
theorem star_err : "*" ++ "errors.errorString" = "*errors.errorString" := by decide
theorem rowErr (u : TypeId) (h : Tryd.prog.typeName? 3 u = some "*errors.errorString") : u = 114 :=
  typeName_ptr_named (nm := "errors.errorString") (by rw [star_err]; kernel_rfl) (by kernel_rfl) (by decide) u (by rw [star_err]; exact h)
theorem powData {H : Type} : (Rows.laid_internal_strconv_uint64pow10 : DataW H) = Lib.tabData .u64 Lib.pow10Tab := by rfl

/-- WHAT THE LIST GIVES. -/
theorem envOf {W : World} (h : laidMet Tryd.prog Rows.pathnameNamesRow.laid W) : Env W := by
  have h3 := h.tail.tail
  have h5 := h3.tail.tail
  have h6 := h5.tail
  have hp : Lib.TabIs Tryd.prog W "internal/strconv.uint64pow10" .u64 Lib.pow10Tab :=
    Lib.tabIs_of_head gPow gPowType Tryd.underlying110 Tryd.underlying90 (by kernel_rfl) (by kernel_rfl) h3
  obtain ⟨a5, s5, v5, _, _, _⟩ := laid_sentinel h5 gRan gRanType Tryd.underlying56 rowErr Tryd.underlying114 Tryd.underlying116 rfl rfl Tryd.underlying9 (by kernel_rfl) (by kernel_rfl)
  obtain ⟨a6, s6, v6, _, _, _⟩ := laid_sentinel h6 gSyn gSynType Tryd.underlying56 rowErr Tryd.underlying114 Tryd.underlying116 rfl rfl Tryd.underlying9 (by kernel_rfl) (by kernel_rfl)
  refine ⟨hp, ⟨_, _, by simpa using World.var?_cell gSyn v6 0⟩, ⟨_, _, by simpa using World.var?_cell gRan v5 0⟩, ?_⟩
  have hc := hp.cell gPow 0 (by decide)
  unfold World.cell? at hc
  cases hb : W.heap[5]? with
  | none => simp [hb] at hc
  | some o => exact (Array.getElem?_eq_some_iff.1 hb).1

theorem i64_wf {x : Int} (h : (Lit.int .i64 x).wf = true) : -9223372036854775808 ≤ x ∧ x ≤ 9223372036854775807 := by
  simpa [Lit.wf, IntKind.min, IntKind.max, IntKind.signed, IntKind.bits] using h
theorem cellsId : Tryd.prog.cellsOf 25 = 3 := by kernel_rfl
theorem cellsStamp : Tryd.prog.cellsOf 23 = 2 := by kernel_rfl
theorem cellsInt : Tryd.prog.cellsOf 3 = 1 := by kernel_rfl

theorem list3 {α : Type} {l : List α} (h : l.length = 3) : ∃ a b c, l = [a, b, c] := by
  match l, h with
  | [a, b, c], _ => exact ⟨a, b, c, rfl⟩

set_option maxRecDepth 100000 in
/-- AN ID THAT CAME IN. -/
theorem open_id {H : Type} {enc : TypeId × Value → H} {W : World} {r : Reach} {b0 base : Nat} {spare : Nat → Bool} {held : Bool} {v : Value} {d : DataW H} {p : List MemPlace}
    (hv : Value.okWide Tryd.prog W r b0 25 v) (h : DataW.Trod enc Tryd.prog W base spare held 25 v d p) :
    ∃ t r i : Int, v = .agg #[.int .i64 t, .int .i64 r, .int .i64 i] ∧ (-9223372036854775808 ≤ t ∧ t ≤ 9223372036854775807) ∧ (-9223372036854775808 ≤ r ∧ r ≤ 9223372036854775807) ∧ (-9223372036854775808 ≤ i ∧ i ≤ 9223372036854775807) := by
  obtain ⟨⟨l⟩, rfl, hsz⟩ := okWide_struct Tryd.underlying25 hv
  have hsz3 : l.length = 3 := by rw [← cellsId]; exact hsz
  obtain ⟨c0, c1, c2, rfl⟩ := list3 hsz3
  obtain ⟨fuel, hf⟩ := h
  obtain ⟨x0, x1, n, _, _, g0, g1⟩ := trod_struct2 Tryd.underlying25 hf
  rw [cellsStamp] at g0
  rw [cellsInt] at g1
  replace g0 : DataW.trod enc Tryd.prog W base spare held n 23 [c0, c1] = some x0 := g0
  replace g1 : DataW.trod enc Tryd.prog W base spare held n 3 [c2] = some x1 := g1
  obtain ⟨y0, y1, m, _, _, k0, k1⟩ := trod_struct2 Tryd.underlying23 g0
  rw [cellsInt] at k0 k1
  replace k0 : DataW.trod enc Tryd.prog W base spare held m 3 [c0] = some y0 := k0
  replace k1 : DataW.trod enc Tryd.prog W base spare held m 3 [c1] = some y1 := k1
  obtain ⟨t, e0, _, w0⟩ := DataW.trod_int Tryd.underlying3 k0
  obtain ⟨r, e1, _, w1⟩ := DataW.trod_int Tryd.underlying3 k1
  obtain ⟨i, e2, _, w2⟩ := DataW.trod_int Tryd.underlying3 g1
  simp only [List.cons.injEq, and_true] at e0 e1 e2
  subst e0 e1 e2
  exact ⟨t, r, i, rfl, i64_wf w0, i64_wf w1, i64_wf w2⟩

end Go.Proofs.YthecofkkacieaaaDoor.S5
