/-
  Layer 8, laws: WireStamps.
-/
import Derived.Test.YtphnimmhjnhajaaKW10v
import Derived.Test.YtphnimmhjnhajaaKA
namespace Go.Proofs.Ytphnimmhjnhajaa.W8
open Go.RowKit Go.PlainAid M8 V1
set_option linter.unusedVariables false

theorem shI_is (g : Grp) (T : Int) (x : Id3) : shI g T x = shX (g.t, g.r) (T, g.r) x := by
  unfold shI shX
  by_cases h : ofS g x = true
  · rw [if_pos h, if_pos (ofS_iff.1 h)]
  · rw [if_neg h, if_neg (fun k => h (ofS_iff.2 k))]
theorem shS_is (g : Grp) (T : Int) (s : Int × Int) : shS g T s = shS2 (g.t, g.r) (T, g.r) s := by
  unfold shS shS2 shX
  by_cases h : (s.1 == g.t && s.2 == g.r) = true
  · have h2 : s.1 = g.t ∧ s.2 = g.r := by simpa using h
    rw [if_pos h, if_pos h2]
  · have h2 : ¬ (s.1 = g.t ∧ s.2 = g.r) := fun k => h (by simpa using k)
    rw [if_neg h, if_neg h2]
theorem shOp_is (g : Grp) (T : Int) (o : Opn) : shOp g T o = shOpX (g.t, g.r) (T, g.r) o := by
  unfold shOp shOpX
  rw [shI_is, shI_is, shI_is, shI_is, show shS g T = shS2 (g.t, g.r) (T, g.r) from funext (shS_is g T), show shI g T = shX (g.t, g.r) (T, g.r) from funext (shI_is g T)]
theorem OpOwn.mono {w : World} {B B' : Nat} {z : OpR} (h : OpOwn w B z) (hb : B' ≤ B) : OpOwn w B' z := ⟨own_mono h.dots hb, own_mono h.elems hb⟩
theorem OpOwn.below {w w' : World} {B : Nat} {z : OpR} (h : OpOwn w B z) (hb : Below w.heap.size w w') : OpOwn w' B z := ⟨own_below h.dots hb, own_below h.elems hb⟩
theorem OpOwn.grown {w w' : World} {B B2 : Nat} {z : OpR} {v2 : Value} {n2 : Nat} {xs2 : List Value} (h : OpOwn w B z) (h2 : w.ownsRow B2 44 18 v2 n2 xs2) (hg : w.grownBy w' v2.ownBlock) : OpOwn w' B z := ⟨own_grown h.dots h2 hg (by decide), own_grown h.elems h2 hg (by decide)⟩
theorem OpOwn.other {w w' : World} {B b : Nat} {z : OpR} (h : OpOwn w B z) (ho : Only b w w') {cs : Array Value} (hb : w.heap[b]? = some (.cells cs 27 (0, 0))) : OpOwn w' B z := ⟨own_other h.dots ho hb (by decide), own_other h.elems ho hb (by decide)⟩
/-- The law's boxes and the row that grows. -/
structure WSt (w : World) (G : GrpR) (T : Int) (q : Nat) (v : Value) (k : Nat) (zs : List OpR) (W : World) : Prop where
  g : GrpCells W w.heap.size G
  la : Two W q 23 T G.r
  h : W.heap[q + 1]? = some (.cells #[.int .i64 T, .int .i64 G.r, .int .i64 G.n, .slice G.dA G.deps.length G.dc, .int .i64 G.ut, .int .i64 G.ur, v] 27 (0, 0))
  own : W.ownsRow (q + 2) 44 18 v k (zs.flatMap OpR.cells)
  each : ∀ z ∈ zs, OpOwn W (q + 2) z
  os : zs.map OpR.o = ((G.xs.take k).map OpR.o).map (shOpX (G.t, G.r) (T, G.r))
  q0 : w.heap.size < q
  be : Below w.heap.size w W
theorem WSt.lt {w : World} {G : GrpR} {T : Int} {q : Nat} {v : Value} {k : Nat} {zs : List OpR} {W : World} (h : WSt w G T q v k zs W) : q + 2 ≤ W.heap.size := (Array.getElem?_eq_some_iff.1 h.h).1
theorem WSt.keep {w : World} {G : GrpR} {T : Int} {q : Nat} {v : Value} {k : Nat} {zs : List OpR} {W W' : World} (h : WSt w G T q v k zs W) (hb : Below W.heap.size W W') : WSt w G T q v k zs W' := by
  have hl := h.lt
  have h0 := h.q0
  exact ⟨h.g.keep hb (by omega), h.la.keep hb, (hb.block _ (by omega)).trans h.h, own_below h.own hb, fun z hz => (h.each z hz).below hb, h.os, h.q0, chain h.be hb⟩
theorem GrpCells.only {w w' : World} {b r : Nat} {G : GrpR} (h : GrpCells w b G) (hk : ∀ o, w'.cell? ⟨b, o, none⟩ = w.cell? ⟨b, o, none⟩) : GrpCells w' b G := by
  obtain ⟨d0, d1, d2, d3, d4, d5, d6⟩ := h
  exact ⟨(hk _).trans d0, (hk _).trans d1, (hk _).trans d2, (hk _).trans d3, (hk _).trans d4, (hk _).trans d5, (hk _).trans d6⟩
theorem cell_block {w w' : World} {b : Nat} (h : w'.heap[b]? = w.heap[b]?) (o : Nat) : w'.cell? ⟨b, o, none⟩ = w.cell? ⟨b, o, none⟩ := by
  unfold World.cell?
  simp only [h]
theorem WSt.step {w : World} {G : GrpR} {T : Int} {q : Nat} {v v4 : Value} {k : Nat} {zs : List OpR} {W W4 : World} {z : OpR} (h : WSt w G T q v k zs W) (hk : k < G.xs.length) (hz : OpOwn W (q + 2) z) (hzo : z.o = shOpX (G.t, G.r) (T, G.r) G.xs[k].o)
    (hg : W.grownBy W4 v.ownBlock) (hown : W4.ownsRow (q + 2) 44 18 v4 (k + 1) (zs.flatMap OpR.cells ++ z.cells)) : WSt w G T q v4 (k + 1) (zs ++ [z]) (W4.setCell ⟨q + 1, 6, none⟩ v4) := by
  have hl := h.lt
  have h0 := h.q0
  have hb : ∀ c, c < q + 2 → W4.heap[c]? = W.heap[c]? := fun c hc => hg.block c (by omega) (fun e => by have := (h.own.lt c e.symm).1; omega)
  have hh4 : W4.heap[q + 1]? = some (.cells #[.int .i64 T, .int .i64 G.r, .int .i64 G.n, .slice G.dA G.deps.length G.dc, .int .i64 G.ut, .int .i64 G.ur, v] 27 (0, 0)) := (hb _ (by omega)).trans h.h
  have ho := Only.set (r := q + 1) W4 6 v4
  have hbk : ∀ c, c < q + 1 → (W4.setCell ⟨q + 1, 6, none⟩ v4).heap[c]? = W.heap[c]? := fun c hc => (ho.kept c (by omega) (by have := hg.size; omega)).trans (hb c (by omega))
  refine ⟨h.g.only (r := 0) (fun o => cell_block (hbk _ (by omega)) o), (hbk _ (by omega)).trans h.la, heap_setCell_same W4 (q + 1) 6 _ 27 v4 hh4, ?_, ?_, ?_, h.q0, ?_⟩
  · rw [List.flatMap_append]
    simp only [List.flatMap_cons, List.flatMap_nil, List.append_nil]
    exact own_other hown ho hh4 (by decide)
  · intro y hy
    rcases List.mem_append.1 hy with h1 | h1
    · exact ((h.each y h1).grown h.own hg).other ho hh4
    · rw [List.mem_singleton.1 h1]; exact (hz.grown h.own hg).other ho hh4
  · rw [List.take_succ_eq_append_getElem hk, List.map_append, List.map_append, List.map_append, h.os]
    simp [hzo]
  · exact ⟨ho.os.trans (hg.os.trans h.be.os), ho.tape.trans (hg.tape.trans h.be.tape), ho.output.trans (hg.output.trans h.be.output), Nat.le_trans h.be.size (Nat.le_trans hg.size ho.size), fun c hc => (hbk c (by omega)).trans (h.be.block c hc)⟩
theorem shX_in {a b : Int × Int} {x : Id3} (hb : stampR b) (hx : idR x) : idR (shX a b x) := by
  unfold shX
  split
  · exact ⟨hb.1, hb.2, hx.2.2⟩
  · exact hx
theorem shS2_in {a b s : Int × Int} (hb : stampR b) (hs : stampR s) : stampR (shS2 a b s) := by
  have h : idR (shX a b (s.1, s.2, 0)) := shX_in hb ⟨hs.1, hs.2, (by show in64 0; constructor <;> decide)⟩
  exact ⟨h.1, h.2.1⟩
theorem shOp_at {w w0 : World} {B : Nat} {x z : OpR} {a b : Int × Int} (hb : stampR b) (hx : OpAt w0 x) (ho : OpOwn w B z) (hz : z.o = shOpX a b x.o) : OpAt w z := by
  obtain ⟨d1, d2, d3⟩ := own_at ho.dots
  obtain ⟨e1, e2, e3⟩ := own_at ho.elems
  refine ⟨d1, e1, ⟨d2, d3⟩, ⟨e2, e3⟩, ?_, ?_, ?_, ?_, ?_, ?_, ?_, ?_, ?_⟩ <;> rw [hz]
  · exact hx.kindR
  · exact shX_in hb hx.nodeR
  · exact shX_in hb hx.parentR
  · exact shX_in hb hx.afterR
  · exact shX_in hb hx.elemR
  · intro s hs
    obtain ⟨s0, h0, rfl⟩ := List.mem_map.1 hs
    exact shS2_in hb (hx.dotsR s0 h0)
  · intro s hs
    obtain ⟨s0, h0, rfl⟩ := List.mem_map.1 hs
    exact shX_in hb (hx.elemsR s0 h0)
  · exact hx.nameR
  · exact hx.textR
/-- All done: the other group lies there, and may be. -/
theorem WSt.done {w : World} {G : GrpR} {T : Int} {q : Nat} {A : Option Addr} {n cp : Nat} {zs : List OpR} {W : World} (h : WSt w G T q (.slice A n cp) G.xs.length zs W) (hG : GrpAt w G) (hf : Fit G) (hc : check G.g = true) (hT : in64 T) (h1 : G.t < T) (h2 : T ≤ 1099511627776) :
    zs.length = G.xs.length ∧ n = G.xs.length ∧ ∀ a, Below W.heap.size W a → Calls Try.prog 11 #[.agg #[.int .i64 T, .int .i64 G.r, .int .i64 G.n, .slice G.dA G.deps.length G.dc, .int .i64 G.ut, .int .i64 G.ur, .slice A n cp]] a fun e w' => e = .returned (.int .i64 0) ∧ Below a.heap.size a w' := by
  have hos := h.os
  rw [List.take_length] at hos
  have hlen : zs.length = G.xs.length := by
    have := congrArg List.length hos
    simpa using this
  have hn : n = G.xs.length := by
    rcases h.own.2 with ⟨e1, e2⟩ | ⟨g, cap, cur, e1, _⟩
    · injection e1 with _ e3 _; rw [e3, e2]
    · injection e1 with _ e3 _
  refine ⟨hlen, hn, fun a hb => ?_⟩
  have hW := h.keep hb
  obtain ⟨r1, r2, r3⟩ := own_at hW.own
  have hb2 : stampR (T, G.r) := ⟨hT, hG.rR⟩
  have hat : GrpAt a ⟨T, G.r, G.n, G.deps, G.ut, G.ur, zs, G.dA, G.dc, A, cp⟩ := by
    refine ⟨hG.deps.keep hW.be, r1, ?_, hG.dcap, ⟨by show zs.length ≤ cp; omega, r3⟩, hT, hG.rR, hG.nR, hG.utR, hG.urR, hG.depsR⟩
    intro z hz
    obtain ⟨i, hi, rfl⟩ := List.getElem_of_mem hz
    have hzo : zs[i].o = shOpX (G.t, G.r) (T, G.r) (G.xs[i]'(by rw [← hlen]; exact hi)).o := by
      have h3 : (zs.map OpR.o)[i]? = (((G.xs.map OpR.o).map (shOpX (G.t, G.r) (T, G.r))))[i]? := by rw [hos]
      simp only [List.getElem?_map, List.getElem?_eq_getElem hi, List.getElem?_eq_getElem (show i < G.xs.length by rw [← hlen]; exact hi), Option.map_some, Option.some.injEq] at h3
      exact h3
    exact shOp_at hb2 (hG.each _ (List.getElem_mem _)) (hW.each _ hz) hzo
  have hgr : (⟨T, G.r, G.n, G.deps, G.ut, G.ur, zs, G.dA, G.dc, A, cp⟩ : GrpR).g = shG G.g T := by
    unfold GrpR.g shG
    simp only
    rw [hos]
    congr 1
    refine List.map_congr_left (fun o _ => ?_)
    exact (shOp_is ⟨G.t, G.r, G.n, G.deps, G.ut, G.ur, G.xs.map OpR.o⟩ T o).symm
  have hck := check_any ⟨T, G.r, G.n, G.deps, G.ut, G.ur, zs, G.dA, G.dc, A, cp⟩ a hat (by have := hf.deps; show G.deps.length ≤ _; omega) (fun hl z hz => by
    have hm : z.o ∈ zs.map OpR.o := List.mem_map.2 ⟨z, hz, rfl⟩
    rw [hos] at hm
    obtain ⟨o1, ho1, he⟩ := List.mem_map.1 hm
    obtain ⟨x1, hx1, rfl⟩ := List.mem_map.1 ho1
    have h3 := (hf.ops (by rw [← hlen]; exact hl) x1 hx1).2
    rw [← he]
    show x1.o.text.length ≤ _
    omega)
  rw [hgr, if_pos (check_sh h1 h2 hc)] at hck
  have hv : ∀ (m : Nat), m = n → Value.slice A n cp = Value.slice A m cp := fun m hm => by rw [hm]
  rw [hv zs.length (by omega)]
  exact hck
theorem step_build_op {ops : Array Oper} {o : Oper} {a : Act} {w : World} {K : Act → World → Prop} {Q : Exit → Act → World → Prop} {E : Prop} (hg : o.guard = none) (s : Operand) (hop : o.op = .buildSlice 25 1 #[(0, s)]) (y : OpR) (hs : a.eval s = .agg y.cells.toArray)
    (hK : K (a.put o.dst (.slice (some ⟨w.heap.size, 0, none⟩) 1 1)) (w.alloc (.cells y.cells.toArray 44))) : if Region.wanted o (yielded ops a.tmps) = true then Oper.wp Try.prog o a w K Q else E := by
  have hw : Region.wanted o (yielded ops a.tmps) = true := by simp [Region.wanted, hg]
  rw [if_pos hw]
  obtain ⟨i0, hi0, hz0, hz1, hz2⟩ := info_parts info_opt
  refine wp_buildSlice 25 44 1 #[(0, s)] hop y.cells.toArray i0 _ Try.underlying25 hi0 hz0 (by rw [hz1]; decide) (by rw [hz1]; decide) ?_ hK
  have h1 : (#[(0, s)].map fun (i, x) => (i, a.eval x)).toList = ([Value.agg y.cells.toArray].zipIdx 0).map fun x => (x.2, x.1) := by simp [hs]
  rw [h1, hz1]
  have h2 := Great.fill_whole (s := 18) (by decide) [Value.agg y.cells.toArray] ((Array.range (1 * 18)).map fun x => (Value.agg noOp.toArray).cells[x % (Value.agg noOp.toArray).cells.size]!) (fun v hv => by rw [List.mem_singleton.1 hv]; rfl) (by simp)
  refine h2.trans ?_
  simp [Value.cells]
theorem step_append_op {ops : Array Oper} {o : Oper} {a : Act} {w : World} {K : Act → World → Prop} {Q : Exit → Act → World → Prop} {E : Prop} (hgd : o.guard = none) (s x : Operand) (ho : o.op = .call { callee := .builtin .append, args := #[s, x], argTypes := #[25, 25] })
    (B : Nat) (v : Value) (n : Nat) (xs : List Value) (hs : a.eval s = v) (hown : w.ownsRow B 44 18 v n xs) (b : Nat) (y : OpR) (hx : a.eval x = .slice (some ⟨b, 0, none⟩) 1 1) (hc : w.heap[b]? = some (.cells y.cells.toArray 44 (0, 0))) (hn : n ≤ 200) (hB : B ≤ w.heap.size)
    (hK : ∀ v' w', w'.ownsRow B 44 18 v' (n + 1) (xs ++ y.cells) → w.grownBy w' v.ownBlock → K (a.put o.dst v') w') : if Region.wanted o (yielded ops a.tmps) = true then Oper.wp Try.prog o a w K Q else E := by
  obtain ⟨i0, hi0, hz0, hz1, hz2⟩ := info_parts info_opt
  refine step_append_own hgd s x 25 ho B 44 i0 _ 18 192 Try.underlying25 hi0 hz0 hz1 hz2 rfl (by decide) v n xs hs hown ⟨b, 0, none⟩ 1 1 y.cells hx rfl ?_ (cells_each y) (by unfold maxLen; omega) (by omega) hB hK
  intro j u hu
  rw [add_none, Nat.zero_add, cell_of_row w b j _ 44 (0, 0) hc]
  simpa using hu

theorem WSt.after {w : World} {G : GrpR} {T : Int} {q : Nat} {v : Value} {k : Nat} {zs : List OpR} {W W4 : World} (h : WSt w G T q v k zs W) (hg : W.grownBy W4 v.ownBlock) : W4.cell? ⟨q + 1, 6, none⟩ = some v ∧ W4.frozen? ⟨q + 1, 6, none⟩ = false := by
  have hl := h.lt
  have hh4 : W4.heap[q + 1]? = some (.cells #[.int .i64 T, .int .i64 G.r, .int .i64 G.n, .slice G.dA G.deps.length G.dc, .int .i64 G.ut, .int .i64 G.ur, v] 27 (0, 0)) := (hg.block _ (by omega) (fun e => by have := (h.own.lt _ e.symm).1; omega)).trans h.h
  exact ⟨by rw [cell_of_row W4 (q + 1) 6 _ _ (0, 0) hh4]; rfl, frozen_of_row W4 (q + 1) 6 _ 27 hh4⟩
theorem WSt.new {w w3 : World} {G : GrpR} {T : Int} (hg : GrpCells w3 w.heap.size G) (hb : Below w.heap.size w w3) (hl : w.heap.size < w3.heap.size) : WSt w G T w3.heap.size (.slice none 0 0) 0 [] ((w3.alloc (.cells #[.int .i64 T, .int .i64 G.r] 23)).alloc (.cells #[.int .i64 T, .int .i64 G.r, .int .i64 G.n, .slice G.dA G.deps.length G.dc, .int .i64 G.ut, .int .i64 G.ur, .slice none 0 0] 27)) := by
  have b1 := below_box (w := w3) (.cells #[.int .i64 T, .int .i64 G.r] 23)
  have b2 := below_box (w := w3.alloc (.cells #[.int .i64 T, .int .i64 G.r] 23)) (.cells #[.int .i64 T, .int .i64 G.r, .int .i64 G.n, .slice G.dA G.deps.length G.dc, .int .i64 G.ut, .int .i64 G.ur, .slice none 0 0] 27)
  have h2 := heap_alloc_new (w3.alloc (.cells #[.int .i64 T, .int .i64 G.r] 23)) (.cells #[.int .i64 T, .int .i64 G.r, .int .i64 G.n, .slice G.dA G.deps.length G.dc, .int .i64 G.ut, .int .i64 G.ur, .slice none 0 0] 27)
  rw [World.size_alloc] at h2
  exact ⟨hg.keep (chain b1 b2) hl, (Two.new w3 23 T G.r).keep b2, h2, World.ownsRow_nil _ _ _ _, (fun z hz => by cases hz), rfl, hl, chain hb (chain b1 b2)⟩

theorem fold_op (y : OpR) : Array.foldl (fun (cs : Array Value) (x : Value × Nat) => cs.setIfInBounds x.snd x.fst) noOp.toArray y.cells.toArray.zipIdx 0 18 = y.cells.toArray := by
  obtain ⟨h1, h⟩ := Great.foldl_set 0 y.cells 0 noOp.toArray
  simp only [Nat.zero_add] at h1 h
  have hs : 18 = (y.cells.toArray.zipIdx).size := by rw [Array.size_zipIdx]; rfl
  have h2 : Array.foldl (fun (cs : Array Value) (x : Value × Nat) => cs.setIfInBounds x.snd x.fst) noOp.toArray y.cells.toArray.zipIdx 0 18 = y.cells.zipIdx.foldl (fun (cs : Array Value) (x : Value × Nat) => cs.setIfInBounds x.snd x.fst) noOp.toArray := by
    conv => lhs; rw [hs]
    rw [← Array.foldl_toList, Array.toList_zipIdx]
  rw [h2]
  apply Array.ext_getElem?
  intro k
  rw [h k]
  have h3 : noOp.toArray.size = 18 := rfl
  have h4 : y.cells.length = 18 := rfl
  rw [h3, h4]
  by_cases hk : k < 18
  · rw [if_pos ⟨Nat.zero_le _, hk, hk⟩]
    simp
  · rw [if_neg (fun h => hk h.2.1), Array.getElem?_eq_none (by rw [h3]; omega), Array.getElem?_eq_none (by show y.cells.length ≤ k; omega)]
theorem fold_lit (z : OpR) (Z : Array Value) (h : z.cells.toArray = Z) : Array.foldl (fun (cs : Array Value) (x : Value × Nat) => cs.setIfInBounds x.snd x.fst) #[.int .i64 0, .int .i64 0, .int .i64 0, .int .i64 0, .int .i64 0, .int .i64 0, .int .i64 0, .string { data := #[] }, .bool false, .slice none 0 0, .int .i64 0, .int .i64 0, .int .i64 0, .int .i64 0, .int .i64 0, .int .i64 0, .string { data := #[] }, .slice none 0 0] Z.zipIdx 0 18 = Z := by
  rw [← h]
  exact fold_op z
/-- What the region's loads read: it stays, whatever the region writes. -/
def RSx (p0 q b off p : Nat) (G : GrpR) (T : Int) (x : OpR) (W : World) : Prop :=
  W.cell? ⟨p0, 0, none⟩ = some (.int .i64 G.t) ∧ W.cell? ⟨p0, 1, none⟩ = some (.int .i64 G.r) ∧ W.cell? ⟨p0, 6, none⟩ = some (.slice (some ⟨b, off, none⟩) G.xs.length G.oc) ∧ W.cell? ⟨q, 0, none⟩ = some (.int .i64 T) ∧ W.cell? ⟨q, 1, none⟩ = some (.int .i64 G.r) ∧ OpCells W b p x
theorem RSx.keep {p0 q b off p : Nat} {G : GrpR} {T : Int} {x : OpR} {W W' : World} (h : RSx p0 q b off p G T x W) (h1 : ∀ o, W'.cell? ⟨p0, o, none⟩ = W.cell? ⟨p0, o, none⟩) (h2 : ∀ o, W'.cell? ⟨q, o, none⟩ = W.cell? ⟨q, o, none⟩) (h3 : ∀ o, W'.cell? ⟨b, o, none⟩ = W.cell? ⟨b, o, none⟩) : RSx p0 q b off p G T x W' := by
  obtain ⟨g0, g1, g6, u0, u1, z0, z1, z2, z3, z4, z5, z6, z7, z8, z9, z10, z11, z12, z13, z14, z15, z16, z17⟩ := h
  exact ⟨(h1 _).trans g0, (h1 _).trans g1, (h1 _).trans g6, (h2 _).trans u0, (h2 _).trans u1, (h3 _).trans z0, (h3 _).trans z1, (h3 _).trans z2, (h3 _).trans z3, (h3 _).trans z4, (h3 _).trans z5, (h3 _).trans z6, (h3 _).trans z7, (h3 _).trans z8, (h3 _).trans z9, (h3 _).trans z10, (h3 _).trans z11, (h3 _).trans z12, (h3 _).trans z13, (h3 _).trans z14, (h3 _).trans z15, (h3 _).trans z16, (h3 _).trans z17⟩
theorem RSx.blocks {p0 q b off p : Nat} {G : GrpR} {T : Int} {x : OpR} {W W' : World} (h : RSx p0 q b off p G T x W) (hb : ∀ c, c < q + 1 → W'.heap[c]? = W.heap[c]?) (hp : p0 < q + 1) (hbb : b < q + 1) : RSx p0 q b off p G T x W' :=
  h.keep (fun o => cell_block (hb _ hp) o) (fun o => cell_block (hb _ (Nat.lt_succ_self _)) o) (fun o => cell_block (hb _ hbb) o)
set_option maxRecDepth 100000 in
set_option maxHeartbeats 32000000 in
theorem lawStamps (w : World) (G : GrpR) (hG : GrpAt w G) (more : Int) (_ : -9223372036854775808 ≤ more) (_ : more ≤ 9223372036854775807) : Calls Try.prog 5 #[.agg G.cells.toArray, .int .i64 more] w fun e w' => e = .returned (.bool true) ∧ Below w.heap.size w w' := by
  obtain ⟨m, e1, hm1⟩ : ∃ m : Nat, bits .and .i64 more 1023 = (m : Int) ∧ m ≤ 1023 := by
    rw [i64_and1023]
    exact ⟨(more % 1024).toNat, by omega, by omega⟩
  have hb0 : Below w.heap.size w (w.alloc (.cells G.cells.toArray 27)) := below_box _
  have hn0 := grp_box (G := G) (heap_alloc_new w (.cells G.cells.toArray 27))
  have hl0 : w.heap.size < (w.alloc (.cells G.cells.toArray 27)).heap.size := by simp
  have HG0 := Lib.hid hG
  have HB0 := Lib.hid hb0
  have HN0 := Lib.hid hn0
  have HL0 := Lib.hid hl0
  clear hG hb0 hn0 hl0
  go_enter Try.func5, Try.ntmps5
  go_wp2_with fail
  refine (awake_any _).mono ?_
  rintro e w1 ⟨rfl, hb1⟩
  have HN1 := Lib.hid (HN0.out.keep hb1 HL0.out)
  have HB1 := Lib.hid (chain HB0.out hb1)
  have HL1 : Hid (w.heap.size < w1.heap.size) := Nat.lt_of_lt_of_le HL0.out hb1.size
  have HF : Hid (Calls Try.prog 7 #[.agg #[.int .i64 G.t, .int .i64 G.r, .int .i64 G.n, .slice G.dA G.deps.length G.dc, .int .i64 G.ut, .int .i64 G.ur, .slice G.oA G.xs.length G.oc]] w1 fun e w' => e = .returned (.bool (fewB G.g)) ∧ Below w1.heap.size w1 w') := few_any G w1 (HG0.out.keep HB1.out)
  clear hb1
  obtain ⟨d0, d1, d2, d3, d4, d5, d6⟩ := HN1.out
  cases hfG : fewB G.g with
  | false =>
    rw [hfG] at HF
    clear hfG
    go_wp2_with fail
    refine HF.out.mono ?_
    rintro e w2 ⟨rfl, hb2⟩
    have HZ := Lib.hid (chain HB1.out hb2)
    clear hb2
    go_wp2
    go_ret
    exact ⟨rfl, HZ.out⟩
  | true =>
    rw [hfG] at HF
    have HFit := Lib.hid (few_fit hfG)
    clear hfG
    go_wp2_with fail
    refine HF.out.mono ?_
    rintro e w2 ⟨rfl, hb2⟩
    have HN2 := Lib.hid (HN1.out.keep hb2 HL1.out)
    have HB2 := Lib.hid (chain HB1.out hb2)
    have HL2 : Hid (w.heap.size < w2.heap.size) := Nat.lt_of_lt_of_le HL1.out hb2.size
    have HC : Hid (Calls Try.prog 11 #[.agg #[.int .i64 G.t, .int .i64 G.r, .int .i64 G.n, .slice G.dA G.deps.length G.dc, .int .i64 G.ut, .int .i64 G.ur, .slice G.oA G.xs.length G.oc]] w2 fun e w' => e = .returned (.int .i64 (if check G.g = true then 0 else 80)) ∧ Below w2.heap.size w2 w') := check_any G w2 (HG0.out.keep HB2.out) (by have := HFit.out.deps; omega) (fun hl x hx => by have := (HFit.out.ops hl x hx).2; omega)
    clear d0 d1 d2 d3 d4 d5 d6 hb2
    obtain ⟨d0, d1, d2, d3, d4, d5, d6⟩ := HN2.out
    cases hc : check G.g with
    | false =>
      rw [hc] at HC
      clear hc
      go_wp2_with fail
      refine HC.out.mono ?_
      rintro e w3 ⟨rfl, hb3⟩
      have HZ := Lib.hid (chain HB2.out hb3)
      clear hb3
      go_wp2
      go_ret
      exact ⟨rfl, HZ.out⟩
    | true =>
      rw [hc] at HC
      have hrt : M5.right G.t G.r = true := by
        have h := hc
        unfold check at h
        simp only [Bool.and_eq_true] at h
        exact h.1.1.1.1.1
      have hrb : 1 ≤ G.t ∧ G.t ≤ 1099511627776 := by
        unfold M5.right at hrt
        simp only [decide_eq_true_eq] at hrt
        omega
      have hlim := check_lim hc
      have HLim : Hid (G.xs.length ≤ 200 ∧ ∀ x ∈ G.xs, x.o.dots.length ≤ 200 ∧ x.o.elems.length ≤ 2000) := by
        refine ⟨?_, fun x hx => (hlim.2 x.o (List.mem_map.2 ⟨x, hx, rfl⟩)).2⟩
        have : (G.xs.map OpR.o).length ≤ 200 := hlim.1
        rwa [List.length_map] at this
      have HCK := Lib.hid hc
      clear hc hrt hlim
      obtain ⟨T, hT⟩ : ∃ T, G.t + 1 + (m : Int) = T := ⟨_, rfl⟩
      have hTb : G.t < T ∧ T ≤ 1099511628800 := by omega
      have hwr1 : IntKind.i64.wrap (G.t + 1) = G.t + 1 := IntWalk.i64_in _ (by omega)
      have hwr2 : IntKind.i64.wrap (G.t + 1 + (m : Int)) = T := by rw [hT]; exact IntWalk.i64_in _ (by omega)
      go_wp2_with fail
      refine HC.out.mono ?_
      rintro e w3 ⟨rfl, hb3⟩
      have HN3 := Lib.hid (HN2.out.keep hb3 HL2.out)
      have HB3 := Lib.hid (chain HB2.out hb3)
      have hl3 : w.heap.size < w3.heap.size := Nat.lt_of_lt_of_le HL2.out hb3.size
      clear d0 d1 d2 d3 d4 d5 d6 hb3 HC
      obtain ⟨d0, d1, d2, d3, d4, d5, d6⟩ := HN3.out
      by_cases hmx : 1099511627776 < T
      · have HZ := Lib.hid (chain HB3.out (below_box (.cells #[.int .i64 T, .int .i64 G.r] 23)))
        have hmx2 : decide ((1099511627776 : Int) < T) = true := decide_eq_true hmx
        clear hT
        go_wp2
        go_ret
        exact ⟨rfl, HZ.out⟩
      have hmx2 : decide ((1099511627776 : Int) < T) = false := decide_eq_false hmx
      clear hT
      have HW0 := Lib.hid (WSt.new (T := T) HN3.out HB3.out hl3)
      have HTB : Hid (in64 T ∧ G.t < T ∧ T ≤ 1099511627776) := ⟨⟨by omega, by omega⟩, hTb.1, by omega⟩
      go_upto_region 12 with fail
      go_cut [8] from 9 to 39 (fun i wx => i = .int .i64 0 ∧ wx = (w3.alloc (.cells #[.int .i64 T, .int .i64 G.r] 23)).alloc (.cells #[.int .i64 T, .int .i64 G.r, .int .i64 G.n, .slice G.dA G.deps.length G.dc, .int .i64 G.ut, .int .i64 G.ur, .slice none 0 0] 27))
      case first =>
        go_wp2
        go_meet
        case rel => exact ⟨rfl, rfl⟩
      case rest =>
      obtain ⟨rfl, rfl⟩ := hcut
      go_wp2
      clear d0 d1 d2 d3 d4 d5 d6 hwr1 hwr2 e1 hm1 hTb hrb hmx hmx2
      go_loopw [8] (fun i wr => ∃ (k : Nat) (v : Value) (zs : List OpR), i = .int .i64 (k : Int) ∧ k ≤ G.xs.length ∧ Hid (WSt w G T w3.heap.size v k zs wr)) (fun i _ => G.xs.length - (intOf i).toNat)
      case atStart => exact ⟨0, _, [], rfl, Nat.zero_le _, HW0.out⟩
      case round =>
        obtain ⟨k, v, zs, rfl, hk, HS⟩ := hrel
        clear HW0
        have hl3 := HS.out.lt
        have hq3 := HS.out.q0
        have hn := HS.out.g
        by_cases hlt : k < G.xs.length
        · obtain ⟨b, off, hA, hbl, hcl0⟩ := op_cells HG0.out.ops hlt
          have hcl : OpCells wr.drew b (off + k * 18) G.xs[k] := by
            obtain ⟨b2, off2, hA2, hbl2, hcl2⟩ := op_cells (HG0.out.keep (HS.out.keep (bdrew wr)).be).ops hlt
            rw [hA] at hA2
            injection hA2 with hA2
            injection hA2 with h1 h2
            rw [h1, h2]
            exact hcl2
          have hx := (HG0.out.keep (HS.out.keep (bdrew wr)).be).each _ (List.getElem_mem hlt)
          have hxl := HLim.out.2 _ (List.getElem_mem hlt)
          obtain ⟨x, hxx⟩ : ∃ x, G.xs[k] = x := ⟨_, rfl⟩
          rw [hxx] at hcl hx hxl
          have HXX := Lib.hid hxx
          obtain ⟨d0, d1, d2, d3, d4, d5, d6⟩ := hn
          rw [hA] at d6
          have HSD := Lib.hid (HS.out.keep (bdrew wr))
          obtain ⟨u0, u1⟩ := HSD.out.la.cells
          have hc0 : wr.drew.cell? ⟨w3.heap.size + 1, 6, none⟩ = some v := by rw [cell_of_row _ _ 6 _ _ (0, 0) HSD.out.h]; rfl
          have hk0 : (0 : Int) ≤ (k : Int) := by omega
          have hk1 : (k : Int) < (G.xs.length : Int) := by omega
          have hd1 : decide ((k : Int) < (G.xs.length : Int)) = true := decide_eq_true hk1
          have hk200 : k ≤ 200 := by have := HLim.out.1; omega
          have hS : RSx w.heap.size w3.heap.size b off (off + k * 18) G T x wr.drew := ⟨d0, d1, d6, u0, u1, hcl⟩
          have hbq : b < w3.heap.size + 1 := by omega
          have hpq : w.heap.size < w3.heap.size + 1 := by omega
          have CALL : Hid (Calls Try.prog 12 #[.agg x.cells.toArray, .agg #[.int .i64 G.t, .int .i64 G.r], .agg #[.int .i64 T, .int .i64 G.r]] wr.drew fun e w1 => ∃ z : OpR, e = .returned (.agg z.cells.toArray) ∧ Hid (z.o = shOpX (G.t, G.r) (T, G.r) x.o ∧ OpOwn w1 (w3.heap.size + 2) z) ∧ w1.cell? ⟨w3.heap.size + 1, 6, none⟩ = some v ∧ w3.heap.size + 2 ≤ w1.heap.size ∧ Hid (WSt w G T w3.heap.size v k zs w1) ∧ RSx w.heap.size w3.heap.size b off (off + k * 18) G T x w1) := by
            refine (shifted_any x (G.t, G.r) (T, G.r) wr.drew hx hxl.1 hxl.2).mono ?_
            rintro e w1 ⟨z, rfl, hz, ho, hb⟩
            have h1 := HSD.out.keep hb
            have hll := HSD.out.lt
            exact ⟨z, rfl, ⟨hz, ho.mono HSD.out.lt⟩, by rw [cell_of_row _ _ 6 _ _ (0, 0) h1.h]; rfl, h1.lt, h1, hS.blocks (fun c hc => hb.block c (by omega)) hpq hbq⟩
          clear hxx hx hxl hcl hcl0 d0 d1 d2 d3 d4 d5 u0 u1 HS
          go_upto_region 15 with fail
          have hc0 : wr.drew.cell? ⟨w3.heap.size + 1, 6, none⟩ = some v := by rw [cell_of_row _ _ 6 _ _ (0, 0) HSD.out.h]; rfl
          clear d6 HSD hA
          refine wp_region_noPanic ?_
          refine wp_region_held_drew (S := RSx w.heap.size w3.heap.size b off (off + k * 18) G T x) (by kernel_rfl) hS (fun hHeld => ?_)
          clear hS
          refine wpAnyH_take (i := 0) (oi := { dst := some 47, op := Op.fieldAddr 27 (Operand.tmp 7) 4, type := 0, pos := "law.go:122", after := #[], guard := none }) (v := ?v1) rfl (by kernel_rfl) (by kernel_rfl) (by kernel_rfl) (fun _ _ _ h => h) (Or.inl ⟨by rfl, ?y1⟩) hHeld ?r1
          case y1 =>
            intro wv hSw
            obtain ⟨g0, g1, g6, u0, u1, z0, z1, z2, z3, z4, z5, z6, z7, z8, z9, z10, z11, z12, z13, z14, z15, z16, z17⟩ := hSw
            go_simp
            all_goals (with_reducible rfl)
          simp only [Act.put, List.setIfInBounds_toArray, List.set_cons_zero, List.set_cons_succ]
          refine wpAnyH_take (i := 2) (oi := { dst := some 49, op := Op.fieldAddr 27 (Operand.tmp 2) 4, type := 0, pos := "law.go:122", after := #[], guard := none }) (v := ?v2) rfl (by kernel_rfl) (by kernel_rfl) (by kernel_rfl) (fun _ _ _ h => h) (Or.inl ⟨by rfl, ?y2⟩) hHeld ?r2
          case y2 =>
            intro wv hSw
            obtain ⟨g0, g1, g6, u0, u1, z0, z1, z2, z3, z4, z5, z6, z7, z8, z9, z10, z11, z12, z13, z14, z15, z16, z17⟩ := hSw
            go_simp
            all_goals (with_reducible rfl)
          simp only [Act.put, List.setIfInBounds_toArray, List.set_cons_zero, List.set_cons_succ]
          refine wpAnyH_take (i := 3) (oi := { dst := some 50, op := Op.load 25 (Operand.tmp 49), type := 25, pos := "law.go:122", after := #[{ on := 2, ground := Ground.data }], guard := none }) (v := ?v3) rfl (by kernel_rfl) (by kernel_rfl) (by kernel_rfl) (fun _ _ _ h => h) (Or.inl ⟨by rfl, ?y3⟩) hHeld ?r3
          case y3 =>
            intro wv hSw
            obtain ⟨g0, g1, g6, u0, u1, z0, z1, z2, z3, z4, z5, z6, z7, z8, z9, z10, z11, z12, z13, z14, z15, z16, z17⟩ := hSw
            go_simp
            all_goals (with_reducible rfl)
          simp only [Act.put, List.setIfInBounds_toArray, List.set_cons_zero, List.set_cons_succ]
          refine wpAnyH_take (i := 4) (oi := { dst := some 51, op := Op.move (Operand.tmp 8), type := 3, pos := "law.go:122", after := #[], guard := none }) (v := ?v4) rfl (by kernel_rfl) (by kernel_rfl) (by kernel_rfl) (fun _ _ _ h => h) (Or.inl ⟨by rfl, ?y4⟩) hHeld ?r4
          case y4 =>
            intro wv hSw
            obtain ⟨g0, g1, g6, u0, u1, z0, z1, z2, z3, z4, z5, z6, z7, z8, z9, z10, z11, z12, z13, z14, z15, z16, z17⟩ := hSw
            go_simp
            all_goals (with_reducible rfl)
          simp only [Act.put, List.setIfInBounds_toArray, List.set_cons_zero, List.set_cons_succ]
          refine wpAnyH_take (i := 5) (oi := { dst := some 52, op := Op.indexAddr 25 (Operand.tmp 50) (Operand.tmp 51), type := 0, pos := "law.go:122", after := #[{ on := 3, ground := Ground.data }, { on := 4, ground := Ground.data }], guard := none }) (v := ?v5) rfl (by kernel_rfl) (by kernel_rfl) (by kernel_rfl) (fun _ _ _ h => h) (Or.inl ⟨by rfl, ?y5⟩) hHeld ?r5
          case y5 =>
            intro wv hSw
            obtain ⟨g0, g1, g6, u0, u1, z0, z1, z2, z3, z4, z5, z6, z7, z8, z9, z10, z11, z12, z13, z14, z15, z16, z17⟩ := hSw
            go_simp
            all_goals (with_reducible rfl)
          simp only [Act.put, List.setIfInBounds_toArray, List.set_cons_zero, List.set_cons_succ]
          refine wpAnyH_take (i := 6) (oi := { dst := some 53, op := Op.load 44 (Operand.tmp 52), type := 44, pos := "law.go:122", after := #[{ on := 5, ground := Ground.data }], guard := none }) (v := ?v6) rfl (by kernel_rfl) (by kernel_rfl) (by kernel_rfl) (fun _ _ _ h => h) (Or.inl ⟨by rfl, ?y6⟩) hHeld ?r6
          case y6 =>
            intro wv hSw
            obtain ⟨g0, g1, g6, u0, u1, z0, z1, z2, z3, z4, z5, z6, z7, z8, z9, z10, z11, z12, z13, z14, z15, z16, z17⟩ := hSw
            go_simp
            all_goals (with_reducible rfl)
          simp only [Act.put, List.setIfInBounds_toArray, List.set_cons_zero, List.set_cons_succ]
          refine wpAnyH_take (i := 7) (oi := { dst := some 54, op := Op.fieldAddr 27 (Operand.tmp 2) 0, type := 0, pos := "law.go:122", after := #[], guard := none }) (v := ?v7) rfl (by kernel_rfl) (by kernel_rfl) (by kernel_rfl) (fun _ _ _ h => h) (Or.inl ⟨by rfl, ?y7⟩) hHeld ?r7
          case y7 =>
            intro wv hSw
            obtain ⟨g0, g1, g6, u0, u1, z0, z1, z2, z3, z4, z5, z6, z7, z8, z9, z10, z11, z12, z13, z14, z15, z16, z17⟩ := hSw
            go_simp
            all_goals (with_reducible rfl)
          simp only [Act.put, List.setIfInBounds_toArray, List.set_cons_zero, List.set_cons_succ]
          refine wpAnyH_take (i := 8) (oi := { dst := some 55, op := Op.load 23 (Operand.tmp 54), type := 23, pos := "law.go:122", after := #[{ on := 7, ground := Ground.data }], guard := none }) (v := ?v8) rfl (by kernel_rfl) (by kernel_rfl) (by kernel_rfl) (fun _ _ _ h => h) (Or.inl ⟨by rfl, ?y8⟩) hHeld ?r8
          case y8 =>
            intro wv hSw
            obtain ⟨g0, g1, g6, u0, u1, z0, z1, z2, z3, z4, z5, z6, z7, z8, z9, z10, z11, z12, z13, z14, z15, z16, z17⟩ := hSw
            go_simp
            all_goals (with_reducible rfl)
          simp only [Act.put, List.setIfInBounds_toArray, List.set_cons_zero, List.set_cons_succ]
          refine wpAnyH_take (i := 9) (oi := { dst := some 56, op := Op.load 23 (Operand.tmp 6), type := 23, pos := "law.go:122", after := #[], guard := none }) (v := ?v9) rfl (by kernel_rfl) (by kernel_rfl) (by kernel_rfl) (fun _ _ _ h => h) (Or.inl ⟨by rfl, ?y9⟩) hHeld ?r9
          case y9 =>
            intro wv hSw
            obtain ⟨g0, g1, g6, u0, u1, z0, z1, z2, z3, z4, z5, z6, z7, z8, z9, z10, z11, z12, z13, z14, z15, z16, z17⟩ := hSw
            go_simp
            all_goals (with_reducible rfl)
          simp only [Act.put, List.setIfInBounds_toArray, List.set_cons_zero, List.set_cons_succ]
          refine wpAnyH_ready (rs := [1, 10]) (by kernel_rfl) (by simp) ?_
          refine AllReadyH.cons (o := { dst := some 48, op := Op.load 25 (Operand.tmp 47), type := 25, pos := "law.go:122", after := #[{ on := 0, ground := Ground.data }], guard := none }) rfl (fun K hK => ?_) ?_
          · skip
            go_simp
            refine hK.out _ _ (by exact hHeld) (fun hHeld => ?_)
            clear hK K
            (try simp only [Act.put, List.setIfInBounds_toArray, List.set_cons_zero, List.set_cons_succ])
            refine wpAnyH_ready (rs := [10]) (by kernel_rfl) (by simp) ?_
            refine AllReadyH.cons (o := { dst := some 57, op := Op.call { callee := Callee.value (Operand.func 12), args := #[Operand.tmp 53, Operand.tmp 55, Operand.tmp 56], argTypes := #[44, 23, 23] }, type := 44, pos := "law.go:122", after := #[{ on := 6, ground := Ground.data }, { on := 8, ground := Ground.data }, { on := 9, ground := Ground.data }], guard := none }) rfl (fun K hK => ?_) AllReadyH.nil
            go_simp
            refine CALL.out.mono ?_
            rintro e w1 ⟨z, rfl, HZ1, hc1, hb1, HS1, hR1⟩
            have hc2 : (w1.alloc (.cells z.cells.toArray 44)).cell? ⟨w3.heap.size + 1, 6, none⟩ = some v := bcell (below_box (.cells z.cells.toArray 44)) (by omega) hc1
            clear hbl hHeld hc0
            go_simp
            refine hK.out _ _ hR1 (fun hHeld => ?_)
            clear hK K
            (try simp only [Act.put, List.setIfInBounds_toArray, List.set_cons_zero, List.set_cons_succ])
            refine wpAnyH_ready (rs := [11]) (by kernel_rfl) (by simp) ?_
            refine AllReadyH.cons (o := { dst := some 58, op := Op.buildSlice 25 1 #[(0, Operand.tmp 57)], type := 25, pos := "law.go:122", after := #[{ on := 10, ground := Ground.data }], guard := none }) rfl (fun K hK => ?_) AllReadyH.nil
            refine step_build_op rfl (.tmp 57) rfl z rfl ?_
            refine hK.out _ _ (hHeld.blocks (fun c hc => (below_box (.cells z.cells.toArray 44)).block c (by omega)) hpq hbq) (fun hHeld => ?_)
            clear hK K
            (try simp only [Act.put, List.setIfInBounds_toArray, List.set_cons_zero, List.set_cons_succ])
            refine wpAnyH_ready (rs := [12]) (by kernel_rfl) (by simp) ?_
            refine AllReadyH.cons (o := { dst := some 59, op := Op.call { callee := Callee.builtin Builtin.append, args := #[Operand.tmp 48, Operand.tmp 58], argTypes := #[25, 25] }, type := 25, pos := "law.go:122", after := #[{ on := 1, ground := Ground.data }, { on := 11, ground := Ground.data }, { on := 10, ground := Ground.chain }], guard := none }) rfl (fun K hK => ?_) AllReadyH.nil
            refine step_append_op rfl (.tmp 48) (.tmp 58) rfl (w3.heap.size + 2) v k _ rfl (HS1.out.keep (below_box (.cells z.cells.toArray 44))).own w1.heap.size z rfl (heap_alloc_new w1 (.cells z.cells.toArray 44)) hk200 (by simp only [World.size_alloc]; omega) ?_
            intro v4 w4 hown4 hg4
            obtain ⟨A4, cp4, rfl⟩ := own_form hown4
            obtain ⟨hce, hfr⟩ := (HS1.out.keep (below_box (.cells z.cells.toArray 44))).after hg4
            have hR4 : RSx w.heap.size w3.heap.size b off (off + k * 18) G T x w4 := hHeld.blocks (fun c hc => hg4.block c (by simp only [World.size_alloc]; omega) (fun e => by have := ((HS1.out.keep (below_box (.cells z.cells.toArray 44))).own.lt c e.symm).1; omega)) hpq hbq
            clear hc2 hc1
            refine hK.out _ _ hR4 (fun hHeld => ?_)
            clear hK K
            (try simp only [Act.put, List.setIfInBounds_toArray, List.set_cons_zero, List.set_cons_succ])
            refine wpAnyH_take (i := 13) (oi := { dst := some 60, op := Op.fieldAddr 27 (Operand.tmp 7) 4, type := 0, pos := "law.go:122", after := #[{ on := 0, ground := Ground.phase }, { on := 1, ground := Ground.phase }, { on := 2, ground := Ground.phase }, { on := 3, ground := Ground.phase }, { on := 4, ground := Ground.phase }, { on := 5, ground := Ground.phase }, { on := 6, ground := Ground.phase }, { on := 7, ground := Ground.phase }, { on := 8, ground := Ground.phase }, { on := 9, ground := Ground.phase }, { on := 10, ground := Ground.phase }, { on := 11, ground := Ground.phase }, { on := 12, ground := Ground.phase }], guard := none }) (v := ?v10) rfl (by kernel_rfl) (by kernel_rfl) (by kernel_rfl) (fun _ _ _ h => h) (Or.inl ⟨by rfl, ?y10⟩) hHeld ?r10
            case y10 =>
              intro wv hSw
              obtain ⟨g0, g1, g6, u0, u1, z0, z1, z2, z3, z4, z5, z6, z7, z8, z9, z10, z11, z12, z13, z14, z15, z16, z17⟩ := hSw
              go_simp
              all_goals (with_reducible rfl)
            simp only [Act.put, List.setIfInBounds_toArray, List.set_cons_zero, List.set_cons_succ]
            refine wpAnyH_ready (rs := [14]) (by kernel_rfl) (by simp) ?_
            refine AllReadyH.cons (o := { dst := none, op := Op.store 25 (Operand.tmp 60) (Operand.tmp 59), type := 0, pos := "law.go:122", after := #[{ on := 13, ground := Ground.data }, { on := 12, ground := Ground.data }, { on := 12, ground := Ground.chain }, { on := 0, ground := Ground.phase }, { on := 1, ground := Ground.phase }, { on := 2, ground := Ground.phase }, { on := 3, ground := Ground.phase }, { on := 4, ground := Ground.phase }, { on := 5, ground := Ground.phase }, { on := 6, ground := Ground.phase }, { on := 7, ground := Ground.phase }, { on := 8, ground := Ground.phase }, { on := 9, ground := Ground.phase }, { on := 10, ground := Ground.phase }, { on := 11, ground := Ground.phase }, { on := 12, ground := Ground.phase }], guard := none }) rfl (fun K hK => ?_) AllReadyH.nil
            have hR5 := hHeld.blocks (W' := w4.setCell ⟨w3.heap.size + 1, 6, none⟩ (.slice A4 (k + 1) cp4)) (fun c hc => heap_setCell_other w4 ⟨w3.heap.size + 1, 6, none⟩ c _ (by show c ≠ w3.heap.size + 1; omega)) hpq hbq
            clear hHeld hR4
            go_simp
            refine hK.out _ _ hR5 (fun hHeld => ?_)
            clear hK K
            (try simp only [Act.put, List.setIfInBounds_toArray, List.set_cons_zero, List.set_cons_succ])
            refine wpAnyH_done (by kernel_rfl) ?_ _
            refine NoPanic.normal ?_
            have HS4 := Lib.hid ((HS1.out.keep (below_box (.cells z.cells.toArray 44))).step hlt (HZ1.out.2.below (below_box (.cells z.cells.toArray 44))) (by rw [HXX.out]; exact HZ1.out.1) hg4 hown4)
            clear hown4 hg4 hce hfr hb1 HZ1 HS1 CALL hd1 hR5 hHeld hR1
            go_wp2
            go_roundw
            case rel => exact ⟨k + 1, _, zs ++ [z], by go_num, by omega, HS4.out⟩
            case measure => simp [intOf]; omega
          refine AllReadyH.cons (o := { dst := some 57, op := Op.call { callee := Callee.value (Operand.func 12), args := #[Operand.tmp 53, Operand.tmp 55, Operand.tmp 56], argTypes := #[44, 23, 23] }, type := 44, pos := "law.go:122", after := #[{ on := 6, ground := Ground.data }, { on := 8, ground := Ground.data }, { on := 9, ground := Ground.data }], guard := none }) rfl (fun K hK => ?_) AllReadyH.nil
          go_simp
          refine CALL.out.mono ?_
          rintro e w1 ⟨z, rfl, HZ1, hc1, hb1, HS1, hR1⟩
          have hc2 : (w1.alloc (.cells z.cells.toArray 44)).cell? ⟨w3.heap.size + 1, 6, none⟩ = some v := bcell (below_box (.cells z.cells.toArray 44)) (by omega) hc1
          clear hbl hHeld hc0
          go_simp
          refine hK.out _ _ hR1 (fun hHeld => ?_)
          clear hK K
          (try simp only [Act.put, List.setIfInBounds_toArray, List.set_cons_zero, List.set_cons_succ])
          refine wpAnyH_ready (rs := [1, 11]) (by kernel_rfl) (by simp) ?_
          refine AllReadyH.cons (o := { dst := some 48, op := Op.load 25 (Operand.tmp 47), type := 25, pos := "law.go:122", after := #[{ on := 0, ground := Ground.data }], guard := none }) rfl (fun K hK => ?_) ?_
          · skip
            go_simp
            refine hK.out _ _ (by exact hHeld) (fun hHeld => ?_)
            clear hK K
            (try simp only [Act.put, List.setIfInBounds_toArray, List.set_cons_zero, List.set_cons_succ])
            refine wpAnyH_ready (rs := [11]) (by kernel_rfl) (by simp) ?_
            refine AllReadyH.cons (o := { dst := some 58, op := Op.buildSlice 25 1 #[(0, Operand.tmp 57)], type := 25, pos := "law.go:122", after := #[{ on := 10, ground := Ground.data }], guard := none }) rfl (fun K hK => ?_) AllReadyH.nil
            refine step_build_op rfl (.tmp 57) rfl z rfl ?_
            refine hK.out _ _ (hHeld.blocks (fun c hc => (below_box (.cells z.cells.toArray 44)).block c (by omega)) hpq hbq) (fun hHeld => ?_)
            clear hK K
            (try simp only [Act.put, List.setIfInBounds_toArray, List.set_cons_zero, List.set_cons_succ])
            refine wpAnyH_ready (rs := [12]) (by kernel_rfl) (by simp) ?_
            refine AllReadyH.cons (o := { dst := some 59, op := Op.call { callee := Callee.builtin Builtin.append, args := #[Operand.tmp 48, Operand.tmp 58], argTypes := #[25, 25] }, type := 25, pos := "law.go:122", after := #[{ on := 1, ground := Ground.data }, { on := 11, ground := Ground.data }, { on := 10, ground := Ground.chain }], guard := none }) rfl (fun K hK => ?_) AllReadyH.nil
            refine step_append_op rfl (.tmp 48) (.tmp 58) rfl (w3.heap.size + 2) v k _ rfl (HS1.out.keep (below_box (.cells z.cells.toArray 44))).own w1.heap.size z rfl (heap_alloc_new w1 (.cells z.cells.toArray 44)) hk200 (by simp only [World.size_alloc]; omega) ?_
            intro v4 w4 hown4 hg4
            obtain ⟨A4, cp4, rfl⟩ := own_form hown4
            obtain ⟨hce, hfr⟩ := (HS1.out.keep (below_box (.cells z.cells.toArray 44))).after hg4
            have hR4 : RSx w.heap.size w3.heap.size b off (off + k * 18) G T x w4 := hHeld.blocks (fun c hc => hg4.block c (by simp only [World.size_alloc]; omega) (fun e => by have := ((HS1.out.keep (below_box (.cells z.cells.toArray 44))).own.lt c e.symm).1; omega)) hpq hbq
            clear hc2 hc1
            refine hK.out _ _ hR4 (fun hHeld => ?_)
            clear hK K
            (try simp only [Act.put, List.setIfInBounds_toArray, List.set_cons_zero, List.set_cons_succ])
            refine wpAnyH_take (i := 13) (oi := { dst := some 60, op := Op.fieldAddr 27 (Operand.tmp 7) 4, type := 0, pos := "law.go:122", after := #[{ on := 0, ground := Ground.phase }, { on := 1, ground := Ground.phase }, { on := 2, ground := Ground.phase }, { on := 3, ground := Ground.phase }, { on := 4, ground := Ground.phase }, { on := 5, ground := Ground.phase }, { on := 6, ground := Ground.phase }, { on := 7, ground := Ground.phase }, { on := 8, ground := Ground.phase }, { on := 9, ground := Ground.phase }, { on := 10, ground := Ground.phase }, { on := 11, ground := Ground.phase }, { on := 12, ground := Ground.phase }], guard := none }) (v := ?v11) rfl (by kernel_rfl) (by kernel_rfl) (by kernel_rfl) (fun _ _ _ h => h) (Or.inl ⟨by rfl, ?y11⟩) hHeld ?r11
            case y11 =>
              intro wv hSw
              obtain ⟨g0, g1, g6, u0, u1, z0, z1, z2, z3, z4, z5, z6, z7, z8, z9, z10, z11, z12, z13, z14, z15, z16, z17⟩ := hSw
              go_simp
              all_goals (with_reducible rfl)
            simp only [Act.put, List.setIfInBounds_toArray, List.set_cons_zero, List.set_cons_succ]
            refine wpAnyH_ready (rs := [14]) (by kernel_rfl) (by simp) ?_
            refine AllReadyH.cons (o := { dst := none, op := Op.store 25 (Operand.tmp 60) (Operand.tmp 59), type := 0, pos := "law.go:122", after := #[{ on := 13, ground := Ground.data }, { on := 12, ground := Ground.data }, { on := 12, ground := Ground.chain }, { on := 0, ground := Ground.phase }, { on := 1, ground := Ground.phase }, { on := 2, ground := Ground.phase }, { on := 3, ground := Ground.phase }, { on := 4, ground := Ground.phase }, { on := 5, ground := Ground.phase }, { on := 6, ground := Ground.phase }, { on := 7, ground := Ground.phase }, { on := 8, ground := Ground.phase }, { on := 9, ground := Ground.phase }, { on := 10, ground := Ground.phase }, { on := 11, ground := Ground.phase }, { on := 12, ground := Ground.phase }], guard := none }) rfl (fun K hK => ?_) AllReadyH.nil
            have hR5 := hHeld.blocks (W' := w4.setCell ⟨w3.heap.size + 1, 6, none⟩ (.slice A4 (k + 1) cp4)) (fun c hc => heap_setCell_other w4 ⟨w3.heap.size + 1, 6, none⟩ c _ (by show c ≠ w3.heap.size + 1; omega)) hpq hbq
            clear hHeld hR4
            go_simp
            refine hK.out _ _ hR5 (fun hHeld => ?_)
            clear hK K
            (try simp only [Act.put, List.setIfInBounds_toArray, List.set_cons_zero, List.set_cons_succ])
            refine wpAnyH_done (by kernel_rfl) ?_ _
            refine NoPanic.normal ?_
            have HS4 := Lib.hid ((HS1.out.keep (below_box (.cells z.cells.toArray 44))).step hlt (HZ1.out.2.below (below_box (.cells z.cells.toArray 44))) (by rw [HXX.out]; exact HZ1.out.1) hg4 hown4)
            clear hown4 hg4 hce hfr hb1 HZ1 HS1 CALL hd1 hR5 hHeld hR1
            go_wp2
            go_roundw
            case rel => exact ⟨k + 1, _, zs ++ [z], by go_num, by omega, HS4.out⟩
            case measure => simp [intOf]; omega
          refine AllReadyH.cons (o := { dst := some 58, op := Op.buildSlice 25 1 #[(0, Operand.tmp 57)], type := 25, pos := "law.go:122", after := #[{ on := 10, ground := Ground.data }], guard := none }) rfl (fun K hK => ?_) AllReadyH.nil
          refine step_build_op rfl (.tmp 57) rfl z rfl ?_
          refine hK.out _ _ (hHeld.blocks (fun c hc => (below_box (.cells z.cells.toArray 44)).block c (by omega)) hpq hbq) (fun hHeld => ?_)
          clear hK K
          (try simp only [Act.put, List.setIfInBounds_toArray, List.set_cons_zero, List.set_cons_succ])
          refine wpAnyH_ready (rs := [1]) (by kernel_rfl) (by simp) ?_
          refine AllReadyH.cons (o := { dst := some 48, op := Op.load 25 (Operand.tmp 47), type := 25, pos := "law.go:122", after := #[{ on := 0, ground := Ground.data }], guard := none }) rfl (fun K hK => ?_) AllReadyH.nil
          go_simp
          refine hK.out _ _ (by exact hHeld) (fun hHeld => ?_)
          clear hK K
          (try simp only [Act.put, List.setIfInBounds_toArray, List.set_cons_zero, List.set_cons_succ])
          refine wpAnyH_ready (rs := [12]) (by kernel_rfl) (by simp) ?_
          refine AllReadyH.cons (o := { dst := some 59, op := Op.call { callee := Callee.builtin Builtin.append, args := #[Operand.tmp 48, Operand.tmp 58], argTypes := #[25, 25] }, type := 25, pos := "law.go:122", after := #[{ on := 1, ground := Ground.data }, { on := 11, ground := Ground.data }, { on := 10, ground := Ground.chain }], guard := none }) rfl (fun K hK => ?_) AllReadyH.nil
          refine step_append_op rfl (.tmp 48) (.tmp 58) rfl (w3.heap.size + 2) v k _ rfl (HS1.out.keep (below_box (.cells z.cells.toArray 44))).own w1.heap.size z rfl (heap_alloc_new w1 (.cells z.cells.toArray 44)) hk200 (by simp only [World.size_alloc]; omega) ?_
          intro v4 w4 hown4 hg4
          obtain ⟨A4, cp4, rfl⟩ := own_form hown4
          obtain ⟨hce, hfr⟩ := (HS1.out.keep (below_box (.cells z.cells.toArray 44))).after hg4
          have hR4 : RSx w.heap.size w3.heap.size b off (off + k * 18) G T x w4 := hHeld.blocks (fun c hc => hg4.block c (by simp only [World.size_alloc]; omega) (fun e => by have := ((HS1.out.keep (below_box (.cells z.cells.toArray 44))).own.lt c e.symm).1; omega)) hpq hbq
          clear hc2 hc1
          refine hK.out _ _ hR4 (fun hHeld => ?_)
          clear hK K
          (try simp only [Act.put, List.setIfInBounds_toArray, List.set_cons_zero, List.set_cons_succ])
          refine wpAnyH_take (i := 13) (oi := { dst := some 60, op := Op.fieldAddr 27 (Operand.tmp 7) 4, type := 0, pos := "law.go:122", after := #[{ on := 0, ground := Ground.phase }, { on := 1, ground := Ground.phase }, { on := 2, ground := Ground.phase }, { on := 3, ground := Ground.phase }, { on := 4, ground := Ground.phase }, { on := 5, ground := Ground.phase }, { on := 6, ground := Ground.phase }, { on := 7, ground := Ground.phase }, { on := 8, ground := Ground.phase }, { on := 9, ground := Ground.phase }, { on := 10, ground := Ground.phase }, { on := 11, ground := Ground.phase }, { on := 12, ground := Ground.phase }], guard := none }) (v := ?v12) rfl (by kernel_rfl) (by kernel_rfl) (by kernel_rfl) (fun _ _ _ h => h) (Or.inl ⟨by rfl, ?y12⟩) hHeld ?r12
          case y12 =>
            intro wv hSw
            obtain ⟨g0, g1, g6, u0, u1, z0, z1, z2, z3, z4, z5, z6, z7, z8, z9, z10, z11, z12, z13, z14, z15, z16, z17⟩ := hSw
            go_simp
            all_goals (with_reducible rfl)
          simp only [Act.put, List.setIfInBounds_toArray, List.set_cons_zero, List.set_cons_succ]
          refine wpAnyH_ready (rs := [14]) (by kernel_rfl) (by simp) ?_
          refine AllReadyH.cons (o := { dst := none, op := Op.store 25 (Operand.tmp 60) (Operand.tmp 59), type := 0, pos := "law.go:122", after := #[{ on := 13, ground := Ground.data }, { on := 12, ground := Ground.data }, { on := 12, ground := Ground.chain }, { on := 0, ground := Ground.phase }, { on := 1, ground := Ground.phase }, { on := 2, ground := Ground.phase }, { on := 3, ground := Ground.phase }, { on := 4, ground := Ground.phase }, { on := 5, ground := Ground.phase }, { on := 6, ground := Ground.phase }, { on := 7, ground := Ground.phase }, { on := 8, ground := Ground.phase }, { on := 9, ground := Ground.phase }, { on := 10, ground := Ground.phase }, { on := 11, ground := Ground.phase }, { on := 12, ground := Ground.phase }], guard := none }) rfl (fun K hK => ?_) AllReadyH.nil
          have hR5 := hHeld.blocks (W' := w4.setCell ⟨w3.heap.size + 1, 6, none⟩ (.slice A4 (k + 1) cp4)) (fun c hc => heap_setCell_other w4 ⟨w3.heap.size + 1, 6, none⟩ c _ (by show c ≠ w3.heap.size + 1; omega)) hpq hbq
          clear hHeld hR4
          go_simp
          refine hK.out _ _ hR5 (fun hHeld => ?_)
          clear hK K
          (try simp only [Act.put, List.setIfInBounds_toArray, List.set_cons_zero, List.set_cons_succ])
          refine wpAnyH_done (by kernel_rfl) ?_ _
          refine NoPanic.normal ?_
          have HS4 := Lib.hid ((HS1.out.keep (below_box (.cells z.cells.toArray 44))).step hlt (HZ1.out.2.below (below_box (.cells z.cells.toArray 44))) (by rw [HXX.out]; exact HZ1.out.1) hg4 hown4)
          clear hown4 hg4 hce hfr hb1 HZ1 HS1 CALL hd1 hR5 hHeld hR1
          go_wp2
          go_roundw
          case rel => exact ⟨k + 1, _, zs ++ [z], by go_num, by omega, HS4.out⟩
          case measure => simp [intOf]; omega
        · obtain rfl : k = G.xs.length := by omega
          have hd1 : decide ((G.xs.length : Int) < (G.xs.length : Int)) = false := decide_eq_false (by omega)
          obtain ⟨A, n, cp, rfl⟩ : ∃ A n cp, v = .slice A n cp := by
            obtain ⟨A, cp, h⟩ := own_form HS.out.own
            exact ⟨A, _, cp, h⟩
          obtain ⟨_, hnn, hchk⟩ := HS.out.done HG0.out HFit.out HCK.out HTB.out.1 HTB.out.2.1 HTB.out.2.2
          have HCHK := Lib.hid (hchk wr (Below.refl _ _))
          have HB := Lib.hid HS.out.be
          have hh := HS.out.h
          obtain ⟨d0, d1, d2, d3, d4, d5, d6⟩ := hn
          have c0 : wr.cell? ⟨w3.heap.size + 1, 0, none⟩ = some (.int .i64 T) := by rw [cell_of_row _ _ 0 _ _ (0, 0) hh]; rfl
          have c1 : wr.cell? ⟨w3.heap.size + 1, 1, none⟩ = some (.int .i64 G.r) := by rw [cell_of_row _ _ 1 _ _ (0, 0) hh]; rfl
          have c2 : wr.cell? ⟨w3.heap.size + 1, 2, none⟩ = some (.int .i64 G.n) := by rw [cell_of_row _ _ 2 _ _ (0, 0) hh]; rfl
          have c3 : wr.cell? ⟨w3.heap.size + 1, 3, none⟩ = some (.slice G.dA G.deps.length G.dc) := by rw [cell_of_row _ _ 3 _ _ (0, 0) hh]; rfl
          have c4 : wr.cell? ⟨w3.heap.size + 1, 4, none⟩ = some (.int .i64 G.ut) := by rw [cell_of_row _ _ 4 _ _ (0, 0) hh]; rfl
          have c5 : wr.cell? ⟨w3.heap.size + 1, 5, none⟩ = some (.int .i64 G.ur) := by rw [cell_of_row _ _ 5 _ _ (0, 0) hh]; rfl
          have c6 : wr.cell? ⟨w3.heap.size + 1, 6, none⟩ = some (.slice A n cp) := by rw [cell_of_row _ _ 6 _ _ (0, 0) hh]; rfl
          clear hnn hchk hh HS d0 d1 d2 d3 d4 d5
          go_wp2_with fail
          refine HCHK.out.mono ?_
          rintro e w9 ⟨rfl, hb9⟩
          have HZ := Lib.hid (chain HB.out hb9)
          clear hb9 c0 c1 c2 c3 c4 c5 c6 d6
          go_wp2
          go_ret
          exact ⟨rfl, HZ.out⟩

theorem lawStampsB (w : World) (G : GrpR) (hG : GrpAt w G) (more : Int) (h1 : -9223372036854775808 ≤ more) (h2 : more ≤ 9223372036854775807) : Calls Try.prog 5 #[G.val, .int .i64 more] w fun e w' => e = .returned (.bool true) ∧ Below w.heap.size w w' := lawStamps w G hG more h1 h2

end Go.Proofs.Ytphnimmhjnhajaa.W8

