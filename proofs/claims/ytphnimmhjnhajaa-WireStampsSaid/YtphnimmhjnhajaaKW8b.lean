/-
  Layer 8, walks: cells of groups and operations; which groups are looked at.
-/
import Derived.Test.YtphnimmhjnhajaaKW8a
import Derived.Test.YtphnimmhjnhajaaKA
import Derived.Deep.MidRow
import Derived.Deep.WholeRow
namespace Go.Proofs.Ytphnimmhjnhajaa.W8
open Go.RowKit Go.PlainAid M8
set_option linter.unusedVariables false

/-- An operation's cells at a place. -/
def OpCells (w : World) (b p : Nat) (x : OpR) : Prop :=
  w.cell? ⟨b, p, none⟩ = some (.int .i64 x.o.kind) ∧ w.cell? ⟨b, p + 1, none⟩ = some (.int .i64 x.o.node.1) ∧ w.cell? ⟨b, p + 2, none⟩ = some (.int .i64 x.o.node.2.1) ∧ w.cell? ⟨b, p + 3, none⟩ = some (.int .i64 x.o.node.2.2) ∧ w.cell? ⟨b, p + 4, none⟩ = some (.int .i64 x.o.parent.1) ∧ w.cell? ⟨b, p + 5, none⟩ = some (.int .i64 x.o.parent.2.1) ∧ w.cell? ⟨b, p + 6, none⟩ = some (.int .i64 x.o.parent.2.2) ∧ w.cell? ⟨b, p + 7, none⟩ = some (.string (bs x.o.name)) ∧ w.cell? ⟨b, p + 8, none⟩ = some (.bool x.o.dir) ∧ w.cell? ⟨b, p + 9, none⟩ = some (.slice x.dA x.o.dots.length x.dc) ∧ w.cell? ⟨b, p + 10, none⟩ = some (.int .i64 x.o.after.1) ∧ w.cell? ⟨b, p + 11, none⟩ = some (.int .i64 x.o.after.2.1) ∧ w.cell? ⟨b, p + 12, none⟩ = some (.int .i64 x.o.after.2.2) ∧ w.cell? ⟨b, p + 13, none⟩ = some (.int .i64 x.o.elem.1) ∧ w.cell? ⟨b, p + 14, none⟩ = some (.int .i64 x.o.elem.2.1) ∧ w.cell? ⟨b, p + 15, none⟩ = some (.int .i64 x.o.elem.2.2) ∧ w.cell? ⟨b, p + 16, none⟩ = some (.string (bs x.o.text)) ∧ w.cell? ⟨b, p + 17, none⟩ = some (.slice x.eA x.o.elems.length x.ec)
/-- A boxed group. -/
def GrpCells (w : World) (b : Nat) (G : GrpR) : Prop :=
  w.cell? ⟨b, 0, none⟩ = some (.int .i64 G.t) ∧ w.cell? ⟨b, 1, none⟩ = some (.int .i64 G.r) ∧ w.cell? ⟨b, 2, none⟩ = some (.int .i64 G.n) ∧ w.cell? ⟨b, 3, none⟩ = some (.slice G.dA G.deps.length G.dc) ∧ w.cell? ⟨b, 4, none⟩ = some (.int .i64 G.ut) ∧ w.cell? ⟨b, 5, none⟩ = some (.int .i64 G.ur) ∧ w.cell? ⟨b, 6, none⟩ = some (.slice G.oA G.xs.length G.oc)
theorem rd_cells {w : World} {A : Option Addr} {α : Type} {f : α → List Value} {c : Nat} {l : List α} (h : Rd w A (l.flatMap f)) (hf : ∀ x ∈ l, (f x).length = c) (hc : 0 < c) {k : Nat} (hk : k < l.length) :
    ∃ b off, A = some ⟨b, off, none⟩ ∧ b < w.heap.size ∧ ∀ r, r < c → w.cell? ⟨b, off + k * c + r, none⟩ = (f l[k])[r]? := by
  rcases h with h | ⟨b, off, rfl, hb, hcell⟩
  · have h1 := flat_len l hf
    rw [h, List.length_nil] at h1
    have : 0 < l.length * c := Nat.mul_pos (by omega) hc
    omega
  · refine ⟨b, off, rfl, hb, fun r hr => ?_⟩
    have h2 : k * c + r < (l.flatMap f).length := by
      rw [flat_len l hf]
      have : (k + 1) * c ≤ l.length * c := Nat.mul_le_mul_right c hk
      rw [Nat.succ_mul] at this
      omega
    have h3 := hcell (k * c + r) h2
    rw [Nat.add_assoc, h3, ← flat_get l hf k hk r hr]
    exact (List.getElem?_eq_getElem h2).symm
theorem op_cells {w : World} {A : Option Addr} {l : List OpR} (h : Rd w A (l.flatMap OpR.cells)) {k : Nat} (hk : k < l.length) : ∃ b off, A = some ⟨b, off, none⟩ ∧ b < w.heap.size ∧ OpCells w b (off + k * 18) l[k] := by
  obtain ⟨b, off, rfl, hb, hc⟩ := rd_cells h (c := 18) (fun _ _ => rfl) (by omega) hk
  exact ⟨b, off, rfl, hb, hc 0 (by omega), hc 1 (by omega), hc 2 (by omega), hc 3 (by omega), hc 4 (by omega), hc 5 (by omega), hc 6 (by omega), hc 7 (by omega), hc 8 (by omega), hc 9 (by omega), hc 10 (by omega), hc 11 (by omega), hc 12 (by omega), hc 13 (by omega), hc 14 (by omega), hc 15 (by omega), hc 16 (by omega), hc 17 (by omega)⟩
theorem grp_box {w : World} {b : Nat} {G : GrpR} {t : TypeId} (h : w.heap[b]? = some (.cells G.cells.toArray t (0, 0))) : GrpCells w b G :=
  ⟨by rw [cell_of_row w b 0 _ t (0, 0) h]; rfl, by rw [cell_of_row w b 1 _ t (0, 0) h]; rfl, by rw [cell_of_row w b 2 _ t (0, 0) h]; rfl, by rw [cell_of_row w b 3 _ t (0, 0) h]; rfl, by rw [cell_of_row w b 4 _ t (0, 0) h]; rfl, by rw [cell_of_row w b 5 _ t (0, 0) h]; rfl, by rw [cell_of_row w b 6 _ t (0, 0) h]; rfl⟩

/-- The empty operation. -/
def noOp : List Value := [.int .i64 0, .int .i64 0, .int .i64 0, .int .i64 0, .int .i64 0, .int .i64 0, .int .i64 0, .string ByteArray.empty, .bool false, .slice none 0 0, .int .i64 0, .int .i64 0, .int .i64 0, .int .i64 0, .int .i64 0, .int .i64 0, .string ByteArray.empty, .slice none 0 0]
theorem info_op : (Try.prog.info? 44).map (fun i => (i.zero, i.size)) = some (some (.agg noOp.toArray), 18) := by kernel_rfl
/-- A boxed operation. -/
def OpIn (w : World) (b : Nat) (x : OpR) : Prop :=
  w.cell? ⟨b, 0, none⟩ = some (.int .i64 x.o.kind) ∧ w.cell? ⟨b, 1, none⟩ = some (.int .i64 x.o.node.1) ∧ w.cell? ⟨b, 2, none⟩ = some (.int .i64 x.o.node.2.1) ∧ w.cell? ⟨b, 3, none⟩ = some (.int .i64 x.o.node.2.2) ∧ w.cell? ⟨b, 4, none⟩ = some (.int .i64 x.o.parent.1) ∧ w.cell? ⟨b, 5, none⟩ = some (.int .i64 x.o.parent.2.1) ∧ w.cell? ⟨b, 6, none⟩ = some (.int .i64 x.o.parent.2.2) ∧ w.cell? ⟨b, 7, none⟩ = some (.string (bs x.o.name)) ∧ w.cell? ⟨b, 8, none⟩ = some (.bool x.o.dir) ∧ w.cell? ⟨b, 9, none⟩ = some (.slice x.dA x.o.dots.length x.dc) ∧ w.cell? ⟨b, 10, none⟩ = some (.int .i64 x.o.after.1) ∧ w.cell? ⟨b, 11, none⟩ = some (.int .i64 x.o.after.2.1) ∧ w.cell? ⟨b, 12, none⟩ = some (.int .i64 x.o.after.2.2) ∧ w.cell? ⟨b, 13, none⟩ = some (.int .i64 x.o.elem.1) ∧ w.cell? ⟨b, 14, none⟩ = some (.int .i64 x.o.elem.2.1) ∧ w.cell? ⟨b, 15, none⟩ = some (.int .i64 x.o.elem.2.2) ∧ w.cell? ⟨b, 16, none⟩ = some (.string (bs x.o.text)) ∧ w.cell? ⟨b, 17, none⟩ = some (.slice x.eA x.o.elems.length x.ec)
theorem op_box {w : World} {b : Nat} {x : OpR} {t : TypeId} (h : w.heap[b]? = some (.cells x.cells.toArray t (0, 0))) : OpIn w b x :=
  ⟨by rw [cell_of_row w b 0 _ t (0, 0) h]; rfl, by rw [cell_of_row w b 1 _ t (0, 0) h]; rfl, by rw [cell_of_row w b 2 _ t (0, 0) h]; rfl, by rw [cell_of_row w b 3 _ t (0, 0) h]; rfl, by rw [cell_of_row w b 4 _ t (0, 0) h]; rfl, by rw [cell_of_row w b 5 _ t (0, 0) h]; rfl, by rw [cell_of_row w b 6 _ t (0, 0) h]; rfl, by rw [cell_of_row w b 7 _ t (0, 0) h]; rfl, by rw [cell_of_row w b 8 _ t (0, 0) h]; rfl, by rw [cell_of_row w b 9 _ t (0, 0) h]; rfl, by rw [cell_of_row w b 10 _ t (0, 0) h]; rfl, by rw [cell_of_row w b 11 _ t (0, 0) h]; rfl, by rw [cell_of_row w b 12 _ t (0, 0) h]; rfl, by rw [cell_of_row w b 13 _ t (0, 0) h]; rfl, by rw [cell_of_row w b 14 _ t (0, 0) h]; rfl, by rw [cell_of_row w b 15 _ t (0, 0) h]; rfl, by rw [cell_of_row w b 16 _ t (0, 0) h]; rfl, by rw [cell_of_row w b 17 _ t (0, 0) h]; rfl⟩

/-- A store into the block that was made last, at the list of a plain region's operations. -/
theorem wpList_store_fresh {Q' : Program} {ops : Array Oper} {rest : List Oper} {op : Oper} {a : Act} {w0 : World} {K : Exit → Act → World → Prop} (hgd : op.guard = none) (ty : TypeId) (x y : Operand) (ho : op.op = .store ty x y)
    (c cells : Array Value) (hx : a.eval x = .pointer (some ⟨w0.heap.size, 0, none⟩)) (hy : a.eval y = .agg cells) (hi : (Q'.info? ty).map (·.size) = some cells.size) (hc : c.size = cells.size) (h1 : cells.all (·.oneCell') = true)
    (h : wpList Q' ops K rest (a.put op.dst undef) (w0.alloc (.cells cells ty))) : wpList Q' ops K (op :: rest) a (w0.alloc (.cells c ty)) :=
  wpList_plain hgd fun _ hK => by
    unfold Oper.wp execOp
    simp only [ho, hx, hy, Instr.storeAt, Instr.sureAddr, Sem.run_bind, Sem.run_pure, Result.andThen_ok, run_storeVar_new w0 ty c cells hi hc h1]
    exact hK _ _ h
theorem range_op {w : World} {b p : Nat} {x : OpR} (h : OpCells w b p x) : w.rangeAt b p x.cells := fun j v hj => by
  obtain ⟨d0, d1, d2, d3, d4, d5, d6, d7, d8, d9, d10, d11, d12, d13, d14, d15, d16, d17⟩ := h
  have hj2 : j < 18 := (List.getElem?_eq_some_iff.1 hj).1
  match j, hj2, hj with
  | 0, _, hj => injection hj with hj; subst hj; exact d0
  | 1, _, hj => injection hj with hj; subst hj; exact d1
  | 2, _, hj => injection hj with hj; subst hj; exact d2
  | 3, _, hj => injection hj with hj; subst hj; exact d3
  | 4, _, hj => injection hj with hj; subst hj; exact d4
  | 5, _, hj => injection hj with hj; subst hj; exact d5
  | 6, _, hj => injection hj with hj; subst hj; exact d6
  | 7, _, hj => injection hj with hj; subst hj; exact d7
  | 8, _, hj => injection hj with hj; subst hj; exact d8
  | 9, _, hj => injection hj with hj; subst hj; exact d9
  | 10, _, hj => injection hj with hj; subst hj; exact d10
  | 11, _, hj => injection hj with hj; subst hj; exact d11
  | 12, _, hj => injection hj with hj; subst hj; exact d12
  | 13, _, hj => injection hj with hj; subst hj; exact d13
  | 14, _, hj => injection hj with hj; subst hj; exact d14
  | 15, _, hj => injection hj with hj; subst hj; exact d15
  | 16, _, hj => injection hj with hj; subst hj; exact d16
  | 17, _, hj => injection hj with hj; subst hj; exact d17
theorem cells_one (x : OpR) : x.cells.toArray.all (·.oneCell') = true := all_oneCell_toArray (fun v hv => by
    simp only [OpR.cells, List.mem_cons, List.not_mem_nil, or_false] at hv
    rcases hv with rfl | rfl | rfl | rfl | rfl | rfl | rfl | rfl | rfl | rfl | rfl | rfl | rfl | rfl | rfl | rfl | rfl | rfl <;> rfl)

/-- Is an operation short? -/
def opFew (o : Opn) : Bool := decide (o.text.length ≤ 3000) && (decide (o.elems.length ≤ 100) || decide (2000 < o.elems.length)) && decide (o.name.length ≤ 1000)
def fewB (g : Grp) : Bool := (decide (g.ops.length ≤ 60) || decide (200 < g.ops.length)) && decide (g.deps.length ≤ 60) && (g.ops.take 201).all opFew

theorem below_box {w : World} (o : Obj) : Below w.heap.size w (w.alloc o) := (Below.refl _ _).alloc (Nat.le_refl _) _
theorem chain {w a b : World} (h : Below w.heap.size w a) (k : Below a.heap.size a b) : Below w.heap.size w b := h.trans (k.mono h.size)
theorem bcell {W w1 : World} {B : Nat} (hb : Below B W w1) {b o : Nat} (h : b < B) {v : Value} (hc : W.cell? ⟨b, o, none⟩ = some v) : w1.cell? ⟨b, o, none⟩ = some v := (hb.cell (p := ⟨b, o, none⟩) h).trans hc
theorem GrpCells.keep {w w' : World} {b : Nat} {G : GrpR} {B : Nat} (h : GrpCells w b G) (hb : Below B w w') (hB : b < B) : GrpCells w' b G := by
  obtain ⟨c0, c1, c2, c3, c4, c5, c6⟩ := h
  exact ⟨bcell hb hB c0, bcell hb hB c1, bcell hb hB c2, bcell hb hB c3, bcell hb hB c4, bcell hb hB c5, bcell hb hB c6⟩
theorem grp_new (w : World) (G : GrpR) (t : TypeId) : GrpCells (w.alloc (.cells #[.int .i64 G.t, .int .i64 G.r, .int .i64 G.n, .slice G.dA G.deps.length G.dc, .int .i64 G.ut, .int .i64 G.ur, .slice G.oA G.xs.length G.oc] t)) w.heap.size G :=
  grp_box (G := G) (heap_alloc_new w _)

def fewHead (n d : Nat) : Bool := (decide (60 < n) && decide (n ≤ 200)) || decide (60 < d)
theorem fewB_head {g : Grp} (h : fewHead g.ops.length g.deps.length = true) : fewB g = false := by
  unfold fewHead at h
  unfold fewB
  simp only [Bool.or_eq_true, Bool.and_eq_true, decide_eq_true_eq] at h
  cases hq : ((decide (g.ops.length ≤ 60) || decide (200 < g.ops.length)) && decide (g.deps.length ≤ 60)) with
  | false => rfl
  | true =>
    simp only [Bool.or_eq_true, Bool.and_eq_true, decide_eq_true_eq] at hq
    omega
theorem fewB_rest {g : Grp} (h : fewHead g.ops.length g.deps.length = false) : fewB g = (g.ops.take 201).all opFew := by
  unfold fewHead at h
  unfold fewB
  simp only [Bool.or_eq_false_iff, Bool.and_eq_false_iff, decide_eq_false_iff_not] at h
  have hq : ((decide (g.ops.length ≤ 60) || decide (200 < g.ops.length)) && decide (g.deps.length ≤ 60)) = true := by
    simp only [Bool.or_eq_true, Bool.and_eq_true, decide_eq_true_eq]
    omega
  rw [hq, Bool.true_and]
/-- The tests at Few's head, as the walk asks them. -/
def FewTests (n d : Nat) (a b c : Bool) : Prop := decide (60 < (n : Int)) = a ∧ decide ((n : Int) ≤ 200) = b ∧ decide (60 < (d : Int)) = c
theorem fewTests (n d : Nat) : FewTests n d (decide (60 < n)) (decide (n ≤ 200)) (decide (60 < d)) := by
  refine ⟨?_, ?_, ?_⟩ <;> (rw [Bool.eq_iff_iff]; simp only [decide_eq_true_eq]; omega)

set_option maxRecDepth 100000 in
set_option maxHeartbeats 1000000 in
theorem few_head (G : GrpR) (w : World) (a b c : Bool) (ht : FewTests G.xs.length G.deps.length a b c) (h : ((a && b) || c) = true) : Calls Try.prog 7 #[G.val] w fun e w' => e = .returned (.bool false) ∧ Below w.heap.size w w' := by
  unfold GrpR.val
  have HB := Lib.hid (below_box (w := w) (.cells #[.int .i64 G.t, .int .i64 G.r, .int .i64 G.n, .slice G.dA G.deps.length G.dc, .int .i64 G.ut, .int .i64 G.ur, .slice G.oA G.xs.length G.oc] 27))
  obtain ⟨h1, h2, h3⟩ := ht
  cases a
  · cases c
    · simp at h
    · clear h
      go_enter Try.func7, Try.ntmps7
      go_wp2
      go_ret
      exact ⟨rfl, HB.out⟩
  · cases b
    · cases c
      · simp at h
      · clear h
        go_enter Try.func7, Try.ntmps7
        go_wp2
        go_ret
        exact ⟨rfl, HB.out⟩
    · clear h
      go_enter Try.func7, Try.ntmps7
      go_wp2
      go_ret
      exact ⟨rfl, HB.out⟩

theorem all_take {xs : List OpR} {k : Nat} (h : ∀ j (hj : j < xs.length), j < k → opFew xs[j].o = true) (hk : 201 ≤ k ∨ xs.length ≤ k) : ((xs.map OpR.o).take 201).all opFew = true := by
  rw [List.all_eq_true]
  intro o ho
  rw [← List.map_take] at ho
  obtain ⟨x, hx, rfl⟩ := List.mem_map.1 ho
  obtain ⟨j, hj, rfl⟩ := List.getElem_of_mem hx
  rw [List.length_take] at hj
  rw [List.getElem_take]
  exact h j (by omega) (by omega)
theorem not_take {xs : List OpR} {k : Nat} (hk : k < xs.length) (h200 : k ≤ 200) (h : opFew xs[k].o = false) : ((xs.map OpR.o).take 201).all opFew = false := by
  rw [List.all_eq_false]
  refine ⟨xs[k].o, ?_, by rw [h]; simp⟩
  rw [← List.map_take]
  refine List.mem_map.2 ⟨xs[k], ?_, rfl⟩
  exact List.mem_take_iff_getElem.2 ⟨k, by omega, rfl⟩

/-- The tests of an operation, as the walk asks them. -/
def OpTests (o : Opn) (a b c d : Bool) : Prop := decide (3000 < ((bs o.text).size : Int)) = a ∧ decide (100 < (o.elems.length : Int)) = b ∧ decide ((o.elems.length : Int) ≤ 2000) = c ∧ decide (1000 < ((bs o.name).size : Int)) = d
theorem opTests (o : Opn) : ∃ a b c d, OpTests o a b c d ∧ opFew o = (!a && !(b && c) && !d) := by
  refine ⟨_, _, _, _, ⟨rfl, rfl, rfl, rfl⟩, ?_⟩
  unfold opFew
  rw [bs_size, bs_size, Bool.eq_iff_iff]
  simp only [Bool.and_eq_true, Bool.or_eq_true, Bool.not_eq_true', Bool.and_eq_false_iff, decide_eq_true_eq, decide_eq_false_iff_not]
  omega

end Go.Proofs.Ytphnimmhjnhajaa.W8

