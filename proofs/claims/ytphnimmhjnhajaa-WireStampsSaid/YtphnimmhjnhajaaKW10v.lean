/-
  Layer 8, walks: shifted.
-/
import Derived.Test.YtphnimmhjnhajaaKW10u
import Derived.Test.YtphnimmhjnhajaaKA
namespace Go.Proofs.Ytphnimmhjnhajaa.W8
open Go.RowKit Go.PlainAid M8 V1
set_option linter.unusedVariables false

def shS2 (a b s : Int × Int) : Int × Int := ((shX a b (s.1, s.2, 0)).1, (shX a b (s.1, s.2, 0)).2.1)
def shOpX (a b : Int × Int) (o : Opn) : Opn := { o with node := shX a b o.node, parent := shX a b o.parent, dots := o.dots.map (shS2 a b), after := shX a b o.after, elem := shX a b o.elem, elems := o.elems.map (shX a b) }
structure OpOwn (w : World) (B : Nat) (z : OpR) : Prop where
  dots : w.ownsRow B 23 2 (.slice z.dA z.o.dots.length z.dc) z.o.dots.length (z.o.dots.flatMap stampC)
  elems : w.ownsRow B 40 3 (.slice z.eA z.o.elems.length z.ec) z.o.elems.length (z.o.elems.flatMap idC)
/-- What shifted tells. -/
def ShE (a b : Int × Int) (x : OpR) (w : World) (e : Ending) (w' : World) : Prop := ∃ z : OpR, e = .returned (.agg z.cells.toArray) ∧ z.o = shOpX a b x.o ∧ OpOwn w' w.heap.size z ∧ Below w.heap.size w w'
/-- What lies in shifted's boxes: the operation, both stamps, the result. -/
structure SH (w : World) (a b : Int × Int) (y : OpR) (W : World) : Prop where
  op : W.heap[w.heap.size]? = some (.cells y.cells.toArray 44 (0, 0))
  fr : Two W (w.heap.size + 1) 23 a.1 a.2
  too : Two W (w.heap.size + 2) 23 b.1 b.2
  rs : W.heap[w.heap.size + 3]? = some (.cells noOp.toArray 44 (0, 0))
  be : Below w.heap.size w W
theorem SH.lt {w : World} {a b : Int × Int} {y : OpR} {W : World} (h : SH w a b y W) : w.heap.size + 4 ≤ W.heap.size := (Array.getElem?_eq_some_iff.1 h.rs).1
theorem SH.keep {w W W' : World} {a b : Int × Int} {y : OpR} (h : SH w a b y W) (hb : Below W.heap.size W W') : SH w a b y W' := by
  have := h.lt
  exact ⟨(hb.block _ (by omega)).trans h.op, h.fr.keep hb, h.too.keep hb, (hb.block _ (by omega)).trans h.rs, chain h.be hb⟩
theorem SH.new (w : World) (a b : Int × Int) (y : OpR) : SH w a b y ((((w.alloc (.cells y.cells.toArray 44)).alloc (.cells #[.int .i64 a.1, .int .i64 a.2] 23)).alloc (.cells #[.int .i64 b.1, .int .i64 b.2] 23)).alloc (.cells noOp.toArray 44)) := by
  have h1 := heap_alloc_new w (.cells y.cells.toArray 44)
  have h2 := Two.new (w.alloc (.cells y.cells.toArray 44)) 23 a.1 a.2
  have h3 := Two.new ((w.alloc (.cells y.cells.toArray 44)).alloc (.cells #[.int .i64 a.1, .int .i64 a.2] 23)) 23 b.1 b.2
  have h4 := heap_alloc_new (((w.alloc (.cells y.cells.toArray 44)).alloc (.cells #[.int .i64 a.1, .int .i64 a.2] 23)).alloc (.cells #[.int .i64 b.1, .int .i64 b.2] 23)) (.cells noOp.toArray 44)
  simp only [World.size_alloc, Nat.add_assoc] at h2 h3 h4
  have k1 := below_box (w := w.alloc (.cells y.cells.toArray 44)) (.cells #[.int .i64 a.1, .int .i64 a.2] 23)
  have k2 := below_box (w := (w.alloc (.cells y.cells.toArray 44)).alloc (.cells #[.int .i64 a.1, .int .i64 a.2] 23)) (.cells #[.int .i64 b.1, .int .i64 b.2] 23)
  have k3 := below_box (w := ((w.alloc (.cells y.cells.toArray 44)).alloc (.cells #[.int .i64 a.1, .int .i64 a.2] 23)).alloc (.cells #[.int .i64 b.1, .int .i64 b.2] 23)) (.cells noOp.toArray 44)
  refine ⟨?_, (h2.keep k2).keep k3, h3.keep k3, h4, chain (chain (chain (below_box _) k1) k2) k3⟩
  rw [k3.block _ (by simp only [World.size_alloc]; omega), k2.block _ (by simp only [World.size_alloc]; omega), k1.block _ (by simp only [World.size_alloc]; omega)]
  exact h1
theorem there_sub {w : World} {b : Nat} {C : Array Value} {t : TypeId} (hb : w.heap[b]? = some (.cells C t (0, 0))) (k n : Nat) (hk : k + n ≤ C.size) : w.there b k n := fun j hj => by
  exact ⟨by rw [cell_of_row w b (k + j) _ t _ hb, Array.getElem?_eq_getElem (by omega)]; rfl, frozen_of_row w b (k + j) _ t hb⟩
theorem id_one (z : Id3) : (idC z).toArray.all (·.oneCell') = true := all_oneCell_toArray (fun v hv => by
  simp only [idC, List.mem_cons, List.not_mem_nil, or_false] at hv
  rcases hv with rfl | rfl | rfl <;> rfl)
theorem st_id {ops : Array Oper} {rest : List Oper} {op : Oper} {a : Act} {w : World} {Q : Exit → Act → World → Prop} (hgd : op.guard = none) (x y : Operand) (ho : op.op = .store 40 x y) (b k : Nat) (z : Id3) (hx : a.eval x = .pointer (some ⟨b, k, none⟩)) (hy : a.eval y = .agg (idC z).toArray)
    {C : Array Value} {t : TypeId} (h0 : w.heap[b]? = some (.cells C t (0, 0))) (hk : k + 3 ≤ C.size) (h : wpList Try.prog ops Q rest (a.put op.dst undef) (w.setCells b k (idC z))) : wpList Try.prog ops Q (op :: rest) a w :=
  wpList_store_mid hgd 40 x y ho b k (idC z).toArray hx hy (there_sub h0 k 3 hk) (by kernel_rfl) (id_one z) h
theorem SH.put {w W : World} {a b : Int × Int} {y y' : OpR} (h : SH w a b y W) (k : Nat) (z : Id3) (hy : ((y.cells.toArray.setIfInBounds k (.int .i64 z.1)).setIfInBounds (k + 1) (.int .i64 z.2.1)).setIfInBounds (k + 2) (.int .i64 z.2.2) = y'.cells.toArray) : SH w a b y' (W.setCells w.heap.size k (idC z)) := by
  have ho := Only.sets (b := w.heap.size) (idC z) k W
  have hl := h.lt
  have h1 := heap_setCell_same W w.heap.size k _ 44 (.int .i64 z.1) h.op
  have h2 := heap_setCell_same (W.setCell ⟨w.heap.size, k, none⟩ (.int .i64 z.1)) w.heap.size (k + 1) _ 44 (.int .i64 z.2.1) h1
  have h3 := heap_setCell_same ((W.setCell ⟨w.heap.size, k, none⟩ (.int .i64 z.1)).setCell ⟨w.heap.size, k + 1, none⟩ (.int .i64 z.2.1)) w.heap.size (k + 1 + 1) _ 44 (.int .i64 z.2.2) h2
  rw [hy] at h3
  exact ⟨h3, ho.box h.fr (by omega), ho.box h.too (by omega), ho.box h.rs (by omega), ⟨ho.os.trans h.be.os, ho.tape.trans h.be.tape, ho.output.trans h.be.output, Nat.le_trans h.be.size ho.size, fun c hc => (ho.kept c (by omega) (by omega)).trans (h.be.block c hc)⟩⟩
def oNode (a b : Int × Int) (x : OpR) : OpR := { x with o := { x.o with node := shX a b x.o.node } }
def oPar (a b : Int × Int) (x : OpR) : OpR := { x with o := { x.o with node := shX a b x.o.node, parent := shX a b x.o.parent } }
def oAft (a b : Int × Int) (x : OpR) : OpR := { x with o := { x.o with node := shX a b x.o.node, parent := shX a b x.o.parent, after := shX a b x.o.after } }
def oElm (a b : Int × Int) (x : OpR) : OpR := { x with o := { x.o with node := shX a b x.o.node, parent := shX a b x.o.parent, after := shX a b x.o.after, elem := shX a b x.o.elem } }
theorem put_node (a b : Int × Int) (x : OpR) : ((x.cells.toArray.setIfInBounds 1 (.int .i64 (shX a b x.o.node).1)).setIfInBounds 2 (.int .i64 (shX a b x.o.node).2.1)).setIfInBounds 3 (.int .i64 (shX a b x.o.node).2.2) = (oNode a b x).cells.toArray := by simp [OpR.cells, oNode]
theorem put_par (a b : Int × Int) (x : OpR) : (((oNode a b x).cells.toArray.setIfInBounds 4 (.int .i64 (shX a b x.o.parent).1)).setIfInBounds 5 (.int .i64 (shX a b x.o.parent).2.1)).setIfInBounds 6 (.int .i64 (shX a b x.o.parent).2.2) = (oPar a b x).cells.toArray := by simp [OpR.cells, oNode, oPar]
theorem put_aft (a b : Int × Int) (x : OpR) : (((oPar a b x).cells.toArray.setIfInBounds 10 (.int .i64 (shX a b x.o.after).1)).setIfInBounds 11 (.int .i64 (shX a b x.o.after).2.1)).setIfInBounds 12 (.int .i64 (shX a b x.o.after).2.2) = (oAft a b x).cells.toArray := by simp [OpR.cells, oAft, oPar]
theorem put_elm (a b : Int × Int) (x : OpR) : (((oAft a b x).cells.toArray.setIfInBounds 13 (.int .i64 (shX a b x.o.elem).1)).setIfInBounds 14 (.int .i64 (shX a b x.o.elem).2.1)).setIfInBounds 15 (.int .i64 (shX a b x.o.elem).2.2) = (oElm a b x).cells.toArray := by simp [OpR.cells, oElm, oAft]

theorem SH.grown {w W W' : World} {a b : Int × Int} {y : OpR} {row : Option Nat} (h : SH w a b y W) (hg : W.grownBy W' row) (hr : ∀ q, row = some q → w.heap.size + 4 ≤ q) : SH w a b y W' := by
  have hl := h.lt
  have hk : ∀ c, c < w.heap.size + 4 → W'.heap[c]? = W.heap[c]? := fun c hc => hg.block c (by omega) (fun e => by have := hr c e.symm; omega)
  exact ⟨(hk _ (by omega)).trans h.op, (hk _ (by omega)).trans h.fr, (hk _ (by omega)).trans h.too, (hk _ (by omega)).trans h.rs, ⟨hg.os.trans h.be.os, hg.tape.trans h.be.tape, hg.output.trans h.be.output, Nat.le_trans h.be.size hg.size, fun c hc => (hk c (by omega)).trans (h.be.block c hc)⟩⟩
theorem SH.drew {w W : World} {a b : Int × Int} {y : OpR} (h : SH w a b y W) : SH w a b y W.drew := h.keep (bdrew W)
theorem SH.put1 {w W : World} {a b : Int × Int} {y : OpR} (h : SH w a b y W) (i j : Nat) (u v : Value) (y' : OpR) (hy : (y.cells.toArray.setIfInBounds i u).setIfInBounds j v = y'.cells.toArray) : SH w a b y' ((W.setCell ⟨w.heap.size, i, none⟩ u).setCell ⟨w.heap.size, j, none⟩ v) := by
  have ho := (Only.set (r := w.heap.size) W i u).trans (Only.set (r := w.heap.size) (W.setCell ⟨w.heap.size, i, none⟩ u) j v)
  have hl := h.lt
  have h1 := heap_setCell_same W w.heap.size i _ 44 u h.op
  have h2 := heap_setCell_same (W.setCell ⟨w.heap.size, i, none⟩ u) w.heap.size j _ 44 v h1
  rw [hy] at h2
  exact ⟨h2, ho.box h.fr (by omega), ho.box h.too (by omega), ho.box h.rs (by omega), ⟨ho.os.trans h.be.os, ho.tape.trans h.be.tape, ho.output.trans h.be.output, Nat.le_trans h.be.size ho.size, fun c hc => (ho.kept c (by omega) (by omega)).trans (h.be.block c hc)⟩⟩
theorem own_set {w W : World} {a b : Int × Int} {y : OpR} (h : SH w a b y W) (i j : Nat) (u v : Value) {B : Nat} {e : TypeId} {c : Nat} {v0 : Value} {n : Nat} {xs : List Value} (ho : W.ownsRow B e c v0 n xs) (he : 44 ≠ e) : ((W.setCell ⟨w.heap.size, i, none⟩ u).setCell ⟨w.heap.size, j, none⟩ v).ownsRow B e c v0 n xs :=
  own_other ho ((Only.set (r := w.heap.size) W i u).trans (Only.set (r := w.heap.size) (W.setCell ⟨w.heap.size, i, none⟩ u) j v)) h.op he
theorem shE_end {w W5 : World} {a b : Int × Int} {x z : OpR} (h : SH w a b z W5) (ho : OpOwn W5 w.heap.size z) (hz : z.o = shOpX a b x.o) : ShE a b x w (.returned (.agg z.cells.toArray)) (W5.setCells (w.heap.size + 3) 0 z.cells) := by
  have h1 := Only.sets (b := w.heap.size + 3) z.cells 0 W5
  have hl := h.lt
  refine ⟨z, rfl, hz, ⟨own_other ho.dots h1 h.rs (by decide), own_other ho.elems h1 h.rs (by decide)⟩, ⟨h1.os.trans h.be.os, h1.tape.trans h.be.tape, h1.output.trans h.be.output, Nat.le_trans h.be.size h1.size, fun c hc => (h1.kept c (by omega) (by omega)).trans (h.be.block c hc)⟩⟩
theorem info_id3 : (Try.prog.info? 40).map (fun i => (i.zero, i.size, i.bytes)) = some (some (.agg #[.int .i64 0, .int .i64 0, .int .i64 0]), 3, 24) := by kernel_rfl
theorem map_snoc {α β : Type} (f : α → β) (g : β → List Value) {l : List α} {k : Nat} (hk : k < l.length) : ((l.take (k + 1)).map f).flatMap g = ((l.take k).map f).flatMap g ++ g (f l[k]) := by
  rw [List.take_succ_eq_append_getElem hk, List.map_append, List.flatMap_append]
  simp

set_option maxRecDepth 100000 in
set_option maxHeartbeats 16000000 in
theorem shifted_any (x : OpR) (a b : Int × Int) (w : World) (hx : OpAt w x) (hd : x.o.dots.length ≤ 200) (he : x.o.elems.length ≤ 2000) : Calls Try.prog 12 #[.agg x.cells.toArray, .agg #[.int .i64 a.1, .int .i64 a.2], .agg #[.int .i64 b.1, .int .i64 b.2]] w (ShE a b x w) := by
  obtain ⟨i0, hi0, hz0, hz1, hz2⟩ := info_parts info_st
  obtain ⟨j0, hj0, hy0, hy1, hy2⟩ := info_parts info_id3
  have HX := Lib.hid hx
  have HD := Lib.hid hd
  have HE := Lib.hid he
  have HS0 := Lib.hid (SH.new w a b x)
  obtain ⟨W0, hW0⟩ : ∃ W, (((w.alloc (.cells x.cells.toArray 44)).alloc (.cells #[.int .i64 a.1, .int .i64 a.2] 23)).alloc (.cells #[.int .i64 b.1, .int .i64 b.2] 23)).alloc (.cells noOp.toArray 44) = W := ⟨_, rfl⟩
  rw [hW0] at HS0
  have hW0' : (((w.alloc (.cells x.cells.toArray 44)).alloc (.cells #[.int .i64 a.1, .int .i64 a.2] 23)).alloc (.cells #[.int .i64 b.1, .int .i64 b.2] 23)).alloc (.cells #[.int .i64 0, .int .i64 0, .int .i64 0, .int .i64 0, .int .i64 0, .int .i64 0, .int .i64 0, .string ⟨#[]⟩, .bool false, .slice none 0 0, .int .i64 0, .int .i64 0, .int .i64 0, .int .i64 0, .int .i64 0, .int .i64 0, .string ⟨#[]⟩, .slice none 0 0] 44) = W0 := hW0
  clear hx hd he hW0
  go_enter Try.func12, Try.ntmps12
  obtain ⟨d0, d1, d2, d3, d4, d5, d6, d7, d8, d9, d10, d11, d12, d13, d14, d15, d16, d17⟩ := op_box (x := x) HS0.out.op
  obtain ⟨t0, t1⟩ := HS0.out.fr.cells
  obtain ⟨u0, u1⟩ := HS0.out.too.cells
  clear d0 d4 d5 d6 d7 d8 d9 d10 d11 d12 d13 d14 d15 d16 d17
  replace d1 : W0.cell? ⟨w.heap.size, 1, none⟩ = some (.int .i64 x.o.node.1) := d1
  replace d2 : W0.cell? ⟨w.heap.size, 2, none⟩ = some (.int .i64 x.o.node.2.1) := d2
  replace d3 : W0.cell? ⟨w.heap.size, 3, none⟩ = some (.int .i64 x.o.node.2.2) := d3
  go_wp2_with fail
  refine (shift_any x.o.node a b _).mono ?_
  rintro e w1 ⟨rfl, hb1⟩
  have HS1 := Lib.hid (HS0.out.keep hb1)
  have hp1 := HS1.out.put 1 (shX a b x.o.node) (put_node a b x)
  obtain ⟨W1, hW1⟩ : ∃ W, w1.setCells w.heap.size 1 (idC (shX a b x.o.node)) = W := ⟨_, rfl⟩
  rw [hW1] at hp1
  have HP1 := Lib.hid hp1
  have HW1 := Lib.hid hW1
  have HO1 := Lib.hid HS1.out.op
  clear d1 d2 d3 t0 t1 u0 u1 hb1 hp1 hW1 HS0 hW0'
  obtain ⟨d0, d1, d2, d3, d4, d5, d6, d7, d8, d9, d10, d11, d12, d13, d14, d15, d16, d17⟩ := op_box (x := oNode a b x) HP1.out.op
  obtain ⟨t0, t1⟩ := HP1.out.fr.cells
  obtain ⟨u0, u1⟩ := HP1.out.too.cells
  clear d0 d1 d2 d3 d7 d8 d9 d10 d11 d12 d13 d14 d15 d16 d17
  replace d4 : W1.cell? ⟨w.heap.size, 4, none⟩ = some (.int .i64 x.o.parent.1) := d4
  replace d5 : W1.cell? ⟨w.heap.size, 5, none⟩ = some (.int .i64 x.o.parent.2.1) := d5
  replace d6 : W1.cell? ⟨w.heap.size, 6, none⟩ = some (.int .i64 x.o.parent.2.2) := d6
  go_wp2_with ((with_reducible refine st_id ?_ (.tmp 17) (.tmp 16) ?_ w.heap.size 1 (shX a b x.o.node) ?_ ?_ HO1.out ?_ ?_); exact rfl; exact rfl; exact rfl; exact rfl; exact (by show 1 + 3 ≤ 18; omega); rw [HW1.out])
  refine (shift_any x.o.parent a b _).mono ?_
  rintro e w2 ⟨rfl, hb2⟩
  have HS2 := Lib.hid (HP1.out.keep hb2)
  have hp2 := HS2.out.put 4 (shX a b x.o.parent) (put_par a b x)
  obtain ⟨W2, hW2⟩ : ∃ W, w2.setCells w.heap.size 4 (idC (shX a b x.o.parent)) = W := ⟨_, rfl⟩
  rw [hW2] at hp2
  have HP2 := Lib.hid hp2
  have HW2 := Lib.hid hW2
  have HO2 := Lib.hid HS2.out.op
  clear d4 d5 d6 t0 t1 u0 u1 hb2 hp2 hW2 HP1
  obtain ⟨d0, d1, d2, d3, d4, d5, d6, d7, d8, d9, d10, d11, d12, d13, d14, d15, d16, d17⟩ := op_box (x := oPar a b x) HP2.out.op
  obtain ⟨t0, t1⟩ := HP2.out.fr.cells
  obtain ⟨u0, u1⟩ := HP2.out.too.cells
  clear d0 d1 d2 d3 d4 d5 d6 d7 d8 d9 d13 d14 d15 d16 d17
  replace d10 : W2.cell? ⟨w.heap.size, 10, none⟩ = some (.int .i64 x.o.after.1) := d10
  replace d11 : W2.cell? ⟨w.heap.size, 11, none⟩ = some (.int .i64 x.o.after.2.1) := d11
  replace d12 : W2.cell? ⟨w.heap.size, 12, none⟩ = some (.int .i64 x.o.after.2.2) := d12
  go_wp2_with ((with_reducible refine st_id ?_ (.tmp 23) (.tmp 22) ?_ w.heap.size 4 (shX a b x.o.parent) ?_ ?_ HO2.out ?_ ?_); exact rfl; exact rfl; exact rfl; exact rfl; exact (by show 4 + 3 ≤ 18; omega); rw [HW2.out])
  refine (shift_any x.o.after a b _).mono ?_
  rintro e w3 ⟨rfl, hb3⟩
  have HS3 := Lib.hid (HP2.out.keep hb3)
  have hp3 := HS3.out.put 10 (shX a b x.o.after) (put_aft a b x)
  obtain ⟨W3, hW3⟩ : ∃ W, w3.setCells w.heap.size 10 (idC (shX a b x.o.after)) = W := ⟨_, rfl⟩
  rw [hW3] at hp3
  have HP3 := Lib.hid hp3
  have HW3 := Lib.hid hW3
  have HO3 := Lib.hid HS3.out.op
  clear d10 d11 d12 t0 t1 u0 u1 hb3 hp3 hW3 HP2
  obtain ⟨d0, d1, d2, d3, d4, d5, d6, d7, d8, d9, d10, d11, d12, d13, d14, d15, d16, d17⟩ := op_box (x := oAft a b x) HP3.out.op
  obtain ⟨t0, t1⟩ := HP3.out.fr.cells
  obtain ⟨u0, u1⟩ := HP3.out.too.cells
  clear d0 d1 d2 d3 d4 d5 d6 d7 d8 d9 d10 d11 d12 d16 d17
  replace d13 : W3.cell? ⟨w.heap.size, 13, none⟩ = some (.int .i64 x.o.elem.1) := d13
  replace d14 : W3.cell? ⟨w.heap.size, 14, none⟩ = some (.int .i64 x.o.elem.2.1) := d14
  replace d15 : W3.cell? ⟨w.heap.size, 15, none⟩ = some (.int .i64 x.o.elem.2.2) := d15
  go_wp2_with ((with_reducible refine st_id ?_ (.tmp 29) (.tmp 28) ?_ w.heap.size 10 (shX a b x.o.after) ?_ ?_ HO3.out ?_ ?_); exact rfl; exact rfl; exact rfl; exact rfl; exact (by show 10 + 3 ≤ 18; omega); rw [HW3.out])
  refine (shift_any x.o.elem a b _).mono ?_
  rintro e w4 ⟨rfl, hb4⟩
  have HS4 := Lib.hid (HP3.out.keep hb4)
  have hp4 := HS4.out.put 13 (shX a b x.o.elem) (put_elm a b x)
  obtain ⟨W4, hW4⟩ : ∃ W, w4.setCells w.heap.size 13 (idC (shX a b x.o.elem)) = W := ⟨_, rfl⟩
  rw [hW4] at hp4
  have HP4 := Lib.hid hp4
  have HW4 := Lib.hid hW4
  have HO4 := Lib.hid HS4.out.op
  clear d13 d14 d15 t0 t1 u0 u1 hb4 hp4 hW4 HP3
  have H0R : Hid (W4.ownsRow (w.heap.size + 4) 23 2 (.slice none 0 0) 0 ([] : List Value)) := World.ownsRow_nil _ _ _ _
  go_wp2_with ((with_reducible refine st_id ?_ (.tmp 35) (.tmp 34) ?_ w.heap.size 13 (shX a b x.o.elem) ?_ ?_ HO4.out ?_ ?_); exact rfl; exact rfl; exact rfl; exact rfl; exact (by show 13 + 3 ≤ 18; omega); rw [HW4.out])
  clear HW4 HO4 HS4
  go_loopw [7, 8, 9] (fun l i q wr => ∃ k : Nat, k ≤ x.o.dots.length ∧ i = .int .i64 (k : Int) ∧ wr.ownsRow (w.heap.size + 4) 23 2 l k (((x.o.dots.take k).map (shS2 a b)).flatMap stampC) ∧ Hid (SH w a b (oElm a b x) wr)) (fun _ i _ _ => x.o.dots.length - (intOf i).toNat)
  case atStart => exact ⟨0, Nat.zero_le _, rfl, H0R.out, HP4.out⟩
  case round =>
    obtain ⟨k, hk, rfl, hown, HSR⟩ := hrel
    have HOWN := Lib.hid hown
    clear hown H0R HP4
    obtain ⟨d0, d1, d2, d3, d4, d5, d6, d7, d8, d9, d10, d11, d12, d13, d14, d15, d16, d17⟩ := op_box (x := oElm a b x) HSR.out.op
    clear d0 d1 d2 d3 d4 d5 d6 d7 d8 d10 d11 d12 d13 d14 d15 d16 d17
    replace d9 : wr.cell? ⟨w.heap.size, 9, none⟩ = some (.slice x.dA x.o.dots.length x.dc) := d9
    by_cases hlt : k < x.o.dots.length
    · obtain ⟨q, off, hA, hq, hcl⟩ := rd_cells (HX.out.dots.keep HSR.out.be) (c := 2) (fun _ _ => rfl) (by omega) hlt
      obtain ⟨s, hs⟩ : ∃ s, x.o.dots[k] = s := ⟨_, rfl⟩
      have hsn := map_snoc (shS2 a b) stampC hlt
      rw [hs] at hcl hsn
      have x0 : wr.cell? ⟨q, off + k * 2, none⟩ = some (.int .i64 s.1) := hcl 0 (by omega)
      have x1 : wr.cell? ⟨q, off + k * 2 + 1, none⟩ = some (.int .i64 s.2) := hcl 1 (by omega)
      rw [hA] at d9
      have hk0 : (0 : Int) ≤ (k : Int) := by omega
      have hk1 : (k : Int) < (x.o.dots.length : Int) := by omega
      obtain ⟨zz, hzz⟩ : ∃ zz : Id3, shX a b (s.1, s.2, 0) = zz := ⟨_, rfl⟩
      have HC : Hid (∀ W, Calls Try.prog 19 #[.agg #[.int .i64 s.1, .int .i64 s.2, .int .i64 0], .agg #[.int .i64 a.1, .int .i64 a.2], .agg #[.int .i64 b.1, .int .i64 b.2]] W fun e w' => e = .returned (.agg #[.int .i64 zz.1, .int .i64 zz.2.1, .int .i64 zz.2.2]) ∧ Below W.heap.size W w') := fun W => by
        have h := shift_any (s.1, s.2, 0) a b W
        rw [hzz] at h
        exact h
      have HSN : Hid (((x.o.dots.take (k + 1)).map (shS2 a b)).flatMap stampC = ((x.o.dots.take k).map (shS2 a b)).flatMap stampC ++ [.int .i64 zz.1, .int .i64 zz.2.1]) := by
        show _ = _
        rw [hsn]
        unfold shS2
        rw [hzz]
        rfl
      have hT := Tri.new wr 40 s.1 s.2 0
      have HS1 := Lib.hid (HSR.out.keep (below_box (.cells #[.int .i64 s.1, .int .i64 s.2, .int .i64 0] 40)))
      have HR1 := Lib.hid (own_below HOWN.out (below_box (.cells #[.int .i64 s.1, .int .i64 s.2, .int .i64 0] 40)))
      obtain ⟨e0, e1, e2⟩ := hT.cells
      obtain ⟨t0, t1⟩ := HS1.out.fr.cells
      obtain ⟨u0, u1⟩ := HS1.out.too.cells
      clear hs hcl hsn hA hzz hT HOWN
      go_wp2_with fail
      refine (HC.out _).mono ?_
      rintro e w2 ⟨rfl, hb2⟩
      have HS2 := Lib.hid (HS1.out.keep (chain hb2 (below_box (.cells #[.int .i64 zz.1, .int .i64 zz.2.1] 23))))
      have HOWN3 := Lib.hid (own_below HR1.out (chain hb2 (below_box (.cells #[.int .i64 zz.1, .int .i64 zz.2.1] 23))))
      have hB2 : w.heap.size + 4 ≤ (w2.alloc (.cells #[.int .i64 zz.1, .int .i64 zz.2.1] 23)).heap.size := HS2.out.lt
      have HDL := HD.out
      have hfd : ∀ W : World, (Instr.field 40 (.agg #[.int .i64 zz.1, .int .i64 zz.2.1, .int .i64 zz.2.2]) 0).run Try.prog W = .ok (.agg #[.int .i64 zz.1, .int .i64 zz.2.1]) W := fun _ => by kernel_rfl
      clear hb2 x0 x1 d9 e0 e1 e2 t0 t1 u0 u1 HC HS1 HR1
      go_wp2_with (at_builtin; refine wpList_append_own _ rfl (.tmp 49) (.tmp 55) 41 rfl (w.heap.size + 4) 23 i0 (.agg #[.int .i64 0, .int .i64 0]) 2 16 Try.underlying41 hi0 hz0 hz1 hz2 rfl (by decide) _ _ _ rfl HOWN3.out ⟨w2.heap.size, 0, none⟩ 1 1 [.int .i64 zz.1, .int .i64 zz.2.1] rfl rfl (cells_new2 w2 [.int .i64 zz.1, .int .i64 zz.2.1] 23) (by simp [Value.oneCell']) (by unfold maxLen; omega) (by omega) hB2 ?_; intro v4 w4 hown4 hg4 _)
      have HS4 := Lib.hid (HS2.out.grown hg4 (fun q hq => (HOWN3.out.lt q hq).1))
      rw [← HSN.out] at hown4
      have HOWN4 := Lib.hid hown4
      clear hown4 hg4 HOWN3 HS2 hB2 HDL HSN
      go_wp2
      go_roundw
      case rel => exact ⟨k + 1, by omega, by go_num, HOWN4.out, HS4.out⟩
      case measure => simp [intOf]; omega
    · obtain rfl : k = x.o.dots.length := by omega
      have hown := HOWN.out
      rw [List.take_length] at hown
      obtain ⟨A1, cp1, rfl⟩ := own_form hown
      have HOWD := Lib.hid hown
      have H0E : Hid (wr.ownsRow (w.heap.size + 4) 40 3 (.slice none 0 0) 0 ([] : List Value)) := World.ownsRow_nil _ _ _ _
      clear hown HOWN
      go_wp2
      clear d9
      go_loopw [10, 11] (fun l i wr => ∃ (k : Nat) (lv : Value), lv = l ∧ k ≤ x.o.elems.length ∧ i = .int .i64 (k : Int) ∧ wr.ownsRow (w.heap.size + 4) 40 3 lv k (((x.o.elems.take k).map (shX a b)).flatMap idC) ∧ Hid (wr.ownsRow (w.heap.size + 4) 23 2 (.slice A1 x.o.dots.length cp1) x.o.dots.length ((x.o.dots.map (shS2 a b)).flatMap stampC)) ∧ Hid (SH w a b (oElm a b x) wr)) (fun _ i _ => x.o.elems.length - (intOf i).toNat)
      case atStart => exact ⟨0, _, rfl, Nat.zero_le _, rfl, H0E.out, HOWD.out, HSR.out⟩
      case round =>
        clear HOWD H0E HSR
        obtain ⟨k, l, hlv, hk, rfl, hown, HDW, HSR⟩ := hrel
        subst hlv
        have HOWN := Lib.hid hown
        clear hown
        obtain ⟨d0, d1, d2, d3, d4, d5, d6, d7, d8, d9, d10, d11, d12, d13, d14, d15, d16, d17⟩ := op_box (x := oElm a b x) HSR.out.op
        clear d0 d1 d2 d3 d4 d5 d6 d7 d8 d10 d11 d12 d13 d14 d15 d16
        replace d9 : _ = some (Value.slice x.dA x.o.dots.length x.dc) := d9
        replace d17 : _ = some (Value.slice x.eA x.o.elems.length x.ec) := d17
        by_cases hlt : k < x.o.elems.length
        · obtain ⟨q, off, hA, hq, hcl⟩ := rd_cells (HX.out.elems.keep HSR.out.drew.be) (c := 3) (fun _ _ => rfl) (by omega) hlt
          obtain ⟨s, hs⟩ : ∃ s, x.o.elems[k] = s := ⟨_, rfl⟩
          have hsn := map_snoc (shX a b) idC hlt
          rw [hs] at hcl hsn
          have x0 : wr.drew.cell? ⟨q, off + k * 3, none⟩ = some (.int .i64 s.1) := hcl 0 (by omega)
          have x1 : wr.drew.cell? ⟨q, off + k * 3 + 1, none⟩ = some (.int .i64 s.2.1) := hcl 1 (by omega)
          have x2 : wr.drew.cell? ⟨q, off + k * 3 + 2, none⟩ = some (.int .i64 s.2.2) := hcl 2 (by omega)
          rw [hA] at d17
          have hk0 : (0 : Int) ≤ (k : Int) := by omega
          have hk1 : (k : Int) < (x.o.elems.length : Int) := by omega
          have hd1 : decide ((k : Int) < (x.o.elems.length : Int)) = true := decide_eq_true hk1
          obtain ⟨zz, hzz⟩ : ∃ zz : Id3, shX a b s = zz := ⟨_, rfl⟩
          have HEL := HE.out
          have HSD := HSR.out.drew
          obtain ⟨t0, t1⟩ := HSD.fr.cells
          obtain ⟨u0, u1⟩ := HSD.too.cells
          have CALL : Hid (Calls Try.prog 19 #[.agg #[.int .i64 s.1, .int .i64 s.2.1, .int .i64 s.2.2], .agg #[.int .i64 a.1, .int .i64 a.2], .agg #[.int .i64 b.1, .int .i64 b.2]] wr.drew fun e w1 => e = .returned (.agg #[.int .i64 zz.1, .int .i64 zz.2.1, .int .i64 zz.2.2]) ∧ Hid (w1.ownsRow (w.heap.size + 4) 40 3 l k (((x.o.elems.take k).map (shX a b)).flatMap idC)) ∧ Hid (w1.ownsRow (w.heap.size + 4) 23 2 (.slice A1 x.o.dots.length cp1) x.o.dots.length ((x.o.dots.map (shS2 a b)).flatMap stampC)) ∧ Hid (SH w a b (oElm a b x) w1) ∧ w.heap.size + 4 ≤ w1.heap.size) := by
            have h := shift_any s a b wr.drew
            rw [hzz] at h
            exact h.mono fun e w1 ⟨he, hb⟩ => ⟨he, own_below (own_below HOWN.out (bdrew wr)) hb, own_below (own_below HDW.out (bdrew wr)) hb, HSD.keep hb, (HSD.keep hb).lt⟩
          have HSN : Hid (((x.o.elems.take (k + 1)).map (shX a b)).flatMap idC = ((x.o.elems.take k).map (shX a b)).flatMap idC ++ [.int .i64 zz.1, .int .i64 zz.2.1, .int .i64 zz.2.2]) := by
            show _ = _
            rw [hsn, hzz]
            rfl
          have d17' : wr.drew.cell? ⟨w.heap.size, 17, none⟩ = some (Value.slice (some ⟨q, off, none⟩) x.o.elems.length x.ec) := d17
          clear hs hcl hsn hA hzz d9 HSD HOWN HDW HSR
          go_upto_region 15 with fail
          go_region_law (first
            | (go_simp; go_at_call 19; refine CALL.out.mono ?_; rintro e w1 ⟨rfl, HO1, HW1, HS1, hB1⟩)
            | (refine step_append_own rfl (.tmp 64) (.tmp 73) 42 rfl (w.heap.size + 4) 40 j0 (.agg #[.int .i64 0, .int .i64 0, .int .i64 0]) 3 24 Try.underlying42 hj0 hy0 hy1 hy2 rfl (by decide) _ k _ rfl (HO1.out.alloc _) ⟨w1.heap.size, 0, none⟩ 1 1 [.int .i64 zz.1, .int .i64 zz.2.1, .int .i64 zz.2.2] rfl rfl (cells_new2 w1 [.int .i64 zz.1, .int .i64 zz.2.1, .int .i64 zz.2.2] 40) (by simp [Value.oneCell']) (by unfold maxLen; omega) (by omega) (by simp; omega) ?_; intro v4 w4 hown4 hg4))
          all_goals
            have HOX := HO1.out.alloc (.cells #[.int .i64 zz.1, .int .i64 zz.2.1, .int .i64 zz.2.2] 40)
            have HS4 := Lib.hid ((HS1.out.keep (below_box (.cells #[.int .i64 zz.1, .int .i64 zz.2.1, .int .i64 zz.2.2] 40))).grown hg4 (fun q hq => (HOX.lt q hq).1))
            have HD4 := Lib.hid (own_grown (own_below HW1.out (below_box (.cells #[.int .i64 zz.1, .int .i64 zz.2.1, .int .i64 zz.2.2] 40))) HOX hg4 (by decide))
            rw [← HSN.out] at hown4
            have HOWN4 := Lib.hid hown4
            clear hown4 hg4 HSN HOX HS1 HW1 HO1 CALL x0 x1 x2 t0 t1 u0 u1 d17 d17' hd1
            go_wp2
            go_roundw
            case rel => exact ⟨k + 1, _, rfl, by omega, by go_num, HOWN4.out, HD4.out, HS4.out⟩
            case measure => simp [intOf]; omega
        · obtain rfl : k = x.o.elems.length := by omega
          have hown := HOWN.out
          rw [List.take_length] at hown
          obtain ⟨A2, cp2, rfl⟩ := own_form hown
          have f9 := frozen_of_row wr w.heap.size 9 _ 44 HSR.out.op
          have f17 := frozen_of_row wr w.heap.size 17 _ 44 HSR.out.op
          have hy : ((oElm a b x).cells.toArray.setIfInBounds 9 (.slice A1 x.o.dots.length cp1)).setIfInBounds 17 (.slice A2 x.o.elems.length cp2) = (⟨shOpX a b x.o, A1, cp1, A2, cp2⟩ : OpR).cells.toArray := by simp [OpR.cells, oElm, shOpX]
          have hp := HSR.out.put1 9 17 (.slice A1 x.o.dots.length cp1) (.slice A2 x.o.elems.length cp2) ⟨shOpX a b x.o, A1, cp1, A2, cp2⟩ hy
          have ho1 := own_set HSR.out 9 17 (.slice A1 x.o.dots.length cp1) (.slice A2 x.o.elems.length cp2) (own_mono HDW.out (Nat.le_add_right w.heap.size 4)) (by decide)
          have ho2 := own_set HSR.out 9 17 (.slice A1 x.o.dots.length cp1) (.slice A2 x.o.elems.length cp2) (own_mono hown (Nat.le_add_right w.heap.size 4)) (by decide)
          obtain ⟨W5, hW5⟩ : ∃ W, (wr.setCell ⟨w.heap.size, 9, none⟩ (.slice A1 x.o.dots.length cp1)).setCell ⟨w.heap.size, 17, none⟩ (.slice A2 x.o.elems.length cp2) = W := ⟨_, rfl⟩
          rw [hW5] at hp ho1 ho2
          obtain ⟨z, hzz⟩ : ∃ z : OpR, ⟨shOpX a b x.o, A1, cp1, A2, cp2⟩ = z := ⟨_, rfl⟩
          have hzo : z.o = shOpX a b x.o := by rw [← hzz]
          have hoo : OpOwn W5 w.heap.size z := by
            rw [← hzz]
            refine ⟨?_, ?_⟩
            · show W5.ownsRow _ _ _ (.slice A1 (x.o.dots.map (shS2 a b)).length cp1) (x.o.dots.map (shS2 a b)).length ((x.o.dots.map (shS2 a b)).flatMap stampC)
              rw [List.length_map]; exact ho1
            · show W5.ownsRow _ _ _ (.slice A2 (x.o.elems.map (shX a b)).length cp2) (x.o.elems.map (shX a b)).length ((x.o.elems.map (shX a b)).flatMap idC)
              rw [List.length_map]; exact ho2
          rw [hzz] at hp
          have hend := shE_end (x := x) hp hoo hzo
          have HRA := Lib.hid (range_block hp.op)
          have HRS := Lib.hid hp.rs
          have hth := there_block hp.rs
          rw [noop_size z] at hth
          have hrg := World.rangeAt_setCells_same W5 (w.heap.size + 3) 0 z.cells hth
          obtain ⟨W6, hW6⟩ : ∃ W, W5.setCells (w.heap.size + 3) 0 z.cells = W := ⟨_, rfl⟩
          rw [hW6] at hend hrg
          have HEND := Lib.hid hend
          have HRG := Lib.hid hrg
          have HW6 := Lib.hid hW6
          clear hown hy hp ho1 ho2 hzz hzo hoo hend hth hrg hW6 HOWN HDW HSR
          go_upto_region 17 with fail
          go_wp2_with (first | (refine wpList_load_mid rfl 44 (.tmp 3) rfl w.heap.size 0 rfl z.cells _ HRA.out Try.underlying44 rfl (zero_of_info info_op).2 ?_) | (refine st_row rfl (.tmp 6) (.tmp 79) rfl (w.heap.size + 3) z rfl rfl HRS.out ?_; rw [HW6.out]; clear HRA HRS))
          exact bodyPost_ret (results_row rfl _ _ _ (w.heap.size + 3) 0 z.cells _ rfl HRG.out Try.underlying44 rfl (zero_of_info info_op).2) rfl HEND.out

end Go.Proofs.Ytphnimmhjnhajaa.W8

