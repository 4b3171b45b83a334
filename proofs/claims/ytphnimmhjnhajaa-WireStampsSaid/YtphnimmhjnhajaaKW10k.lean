/-
  Layer 8, walks of the program: an operation taken from the head of bytes.
-/
import Derived.Test.YtphnimmhjnhajaaKW10j
namespace Go.Proofs.Ytphnimmhjnhajaa.W8
open Go.RowKit Go.PlainAid M8 V1
set_option linter.unusedVariables false

/-! ### What is taken: a kind that there is none of goes no further than its node -/
def opn0 (x : Int × Id3) : Opn := { kind := x.1, node := x.2, parent := none3, name := [], dir := false, dots := [], after := none3, elem := none3, text := [], elems := [] }
def qDropX (x : Int × Id3) : P Opn := pMap (fun y => { kind := 2, node := x.2, parent := none3, name := [], dir := false, dots := y, after := none3, elem := none3, text := [], elems := [] }) (pListM 200 pStamp)
def qEraseX (x : Int × Id3) : P Opn := pMap (fun y => { kind := 4, node := x.2, parent := none3, name := [], dir := false, dots := [], after := none3, elem := none3, text := [], elems := y }) (pListM 2000 pId)
def qOpX (x : Int × Id3) : P Opn := if x.1 = 0 then qMake x else if x.1 = 1 then qMove x else if x.1 = 2 then qDropX x else if x.1 = 3 then qInsert x else if x.1 = 4 then qEraseX x else fun s => some (opn0 x, s)
def pOpX : P Opn := pBind (pPair pNat pId) qOpX
/-- An operation that was taken, its lists in rows of ours. -/
structure OpGood (w : World) (B : Nat) (x : OpR) : Prop where
  dots : w.ownsRow B 23 2 (.slice x.dA x.o.dots.length x.dc) x.o.dots.length (x.o.dots.flatMap stampC)
  elems : w.ownsRow B 40 3 (.slice x.eA x.o.elems.length x.ec) x.o.elems.length (x.o.elems.flatMap idC)
  kindD : natD x.o.kind
  nodeD : idD x.o.node
  parentD : idD x.o.parent
  afterD : idD x.o.after
  elemD : idD x.o.elem
  dotsD : ∀ s ∈ x.o.dots, stampD s
  elemsD : ∀ s ∈ x.o.elems, idD s
  nameL : x.o.name.length ≤ 1000000
  textL : x.o.text.length ≤ 1000000
  dotsL : x.o.dots.length ≤ 200
  elemsL : x.o.elems.length ≤ 2000
/-- What the taking of an operation tells. -/
def ROpE (r : Nat) (s : List UInt8) (bad : Bool) (w : World) (e : Ending) (w' : World) : Prop :=
  ∃ (x : OpR) (s' : List UInt8) (bad' : Bool), e = .returned (.agg x.cells.toArray) ∧ OpGood w' w.heap.size x ∧ Rdr w' r s' bad' ∧ RP pOpX s bad x.o s' bad' ∧ Only r w w'
theorem none3_D : idD none3 := none_nat
theorem results_row {fn : Func} {t : Tmp} {T : TypeId} (h : fn.results = #[.cell t T]) (tmps : Array Value) (P : Program) (w : World) (b o : Nat) (cs : List Value) (d : TypeDesc) (hp : tmps.getD t undef = .pointer (some ⟨b, o, none⟩)) (hc : w.rangeAt b o cs)
    (hu : P.underlying T = some d) (hd : d.isRow = true) (hi : (P.info? T).map (·.size) = some cs.length) : (results fn tmps).run P w = .ok (.agg cs.toArray) w := by
  have h1 := run_loadVar_mid (P := P) w b o T cs d hc hu hd hi
  rw [Array.getD_eq_getD_getElem?] at hp
  simp [results, h, hp, h1, asAddr]
theorem Only.sets {b : Nat} : ∀ (vs : List Value) (o : Nat) (w : World), Only b w (w.setCells b o vs) := by
  intro vs
  induction vs with
  | nil => intro o w; exact Only.refl _ _
  | cons v vs ih => intro o w; exact (Only.set w o v).trans (ih (o + 1) _)
theorem Only.plus {r b : Nat} {w w1 w2 : World} (h : Only r w w1) (k : Only b w1 w2) (hb : w.heap.size ≤ b) : Only r w w2 := ⟨k.os.trans h.os, k.tape.trans h.tape, k.output.trans h.output, Nat.le_trans h.size k.size, fun c h1 h2 => (k.kept c (by omega) (Nat.lt_of_lt_of_le h2 h.size)).trans (h.kept c h1 h2)⟩
/-- A row of ours stays where another block is written. -/
theorem own_other {w w' : World} {r B : Nat} {e : TypeId} {c : Nat} {v : Value} {n : Nat} {xs : List Value} (h : w.ownsRow B e c v n xs) (ho : Only r w w') {cs : Array Value} {T : TypeId} (hr : w.heap[r]? = some (.cells cs T (0, 0))) (hT : T ≠ e) : w'.ownsRow B e c v n xs := by
  refine ⟨h.1, ?_⟩
  rcases h.2 with h3 | ⟨g, cap, cur, hv, hg, hh, h5, h6, h7, h8⟩
  · exact .inl h3
  · refine .inr ⟨g, cap, cur, hv, hg, ho.box hh (fun e1 => ?_), h5, h6, h7, h8⟩
    rw [e1, hr] at hh
    injection hh with hh
    injection hh with _ e2 _
    exact hT e2
theorem there_block {w : World} {b : Nat} {C : Array Value} {t : TypeId} (hb : w.heap[b]? = some (.cells C t (0, 0))) : w.there b 0 C.size := fun j hj => by
  rw [Nat.zero_add]
  exact ⟨by rw [cell_of_row w b j _ t _ hb, Array.getElem?_eq_getElem hj]; rfl, frozen_of_row w b j _ t hb⟩
theorem range_block {w : World} {b : Nat} {cs : List Value} {t : TypeId} {fr : Nat × Nat} (hb : w.heap[b]? = some (.cells cs.toArray t fr)) : w.rangeAt b 0 cs := fun j v hv => by
  rw [Nat.zero_add, cell_of_row w b j _ t fr hb]
  simpa using hv
def opR0 (k : Int) (x : Id3) : OpR := ⟨opn0 (k, x), none, 0, none, 0⟩

theorem rop_end {r : Nat} {s : List UInt8} {bad : Bool} {w W5 : World} {y : OpR} {s' : List UInt8} {b' : Bool} (h0 : W5.heap[w.heap.size]? = some (.cells noOp.toArray 44 (0, 0))) (hr : Rdr W5 r s' b') (hg : OpGood W5 w.heap.size y) (hp : RP pOpX s bad y.o s' b') (ho : Only r w W5) (hne : w.heap.size ≠ r) :
    ROpE r s bad w (.returned (.agg y.cells.toArray)) (W5.setCells w.heap.size 0 y.cells.toArray.toList) := by
  have h1 := Only.sets (b := w.heap.size) y.cells.toArray.toList 0 W5
  exact ⟨y, s', b', rfl, { hg with dots := own_other hg.dots h1 h0 (by decide), elems := own_other hg.elems h1 h0 (by decide) }, h1.box hr (Ne.symm hne), hp, ho.plus h1 (Nat.le_refl _)⟩
theorem own_form {w : World} {B : Nat} {e : TypeId} {c : Nat} {v : Value} {n : Nat} {xs : List Value} (h : w.ownsRow B e c v n xs) : ∃ A cp, v = .slice A n cp := by
  rcases h.2 with ⟨h1, h2⟩ | ⟨g, cap, cur, h1, _⟩
  · exact ⟨none, 0, by rw [h1, h2]⟩
  · exact ⟨_, _, h1⟩
theorem noop_size (y : OpR) : noOp.toArray.size = y.cells.toArray.size := rfl
theorem st_row {ops : Array Oper} {rest : List Oper} {op : Oper} {a : Act} {w : World} {Q : Exit → Act → World → Prop} (hgd : op.guard = none) (x y : Operand) (ho : op.op = .store 44 x y) (b : Nat) (yy : OpR) (hx : a.eval x = .pointer (some ⟨b, 0, none⟩)) (hy : a.eval y = .agg yy.cells.toArray)
    (h0 : w.heap[b]? = some (.cells noOp.toArray 44 (0, 0))) (h : wpList Try.prog ops Q rest (a.put op.dst undef) (w.setCells b 0 yy.cells)) : wpList Try.prog ops Q (op :: rest) a w := by
  have ht := there_block h0
  rw [noop_size yy] at ht
  have hi : (Try.prog.info? 44).map (·.size) = some yy.cells.toArray.size := (zero_of_info info_op).2
  exact wpList_store_mid hgd 44 x y ho b 0 yy.cells.toArray hx hy ht hi (cells_one yy) h
theorem own_mono {w : World} {B B' : Nat} {e : TypeId} {c : Nat} {v : Value} {n : Nat} {xs : List Value} (h : w.ownsRow B e c v n xs) (hb : B' ≤ B) : w.ownsRow B' e c v n xs := by
  refine ⟨h.1, ?_⟩
  rcases h.2 with h3 | ⟨g, cap, cur, hv, hg, hr⟩
  · exact .inl h3
  · exact .inr ⟨g, cap, cur, hv, Nat.le_trans hb hg, hr⟩
theorem own_sets {w : World} {b B : Nat} {e : TypeId} {c : Nat} {v : Value} {n : Nat} {xs : List Value} {w' : World} (h : w.ownsRow B e c v n xs) (ho : Only b w w') {cs : Array Value} (hb : w.heap[b]? = some (.cells cs 44 (0, 0))) (he : 44 ≠ e) : w'.ownsRow B e c v n xs := own_other h ho hb he
set_option maxRecDepth 100000 in
set_option maxHeartbeats 1000000 in
theorem rnodir_any (w : World) : Calls Try.prog 50 #[] w fun e w' => e = .returned (.bool false) ∧ w' = w := by
  go_enter Try.func50, Try.ntmps50
  go_wp2
  go_ret
  exact ⟨rfl, rfl⟩

set_option maxRecDepth 100000 in
set_option maxHeartbeats 40000000 in
theorem rop_any (r : Nat) (s : List UInt8) (bad : Bool) (hz : s.length ≤ 1000000) (w : World) (hr : Rdr w r s bad) : Calls Try.prog 29 #[.pointer (some ⟨r, 0, none⟩)] w (ROpE r s bad w) := by
  have HLT := Lib.hid hr.lt
  have HR0 := Lib.hid (hr.keep (below_box (.cells noOp.toArray 44)))
  have HZ := Lib.hid hz
  have hb0 := heap_alloc_new w (.cells noOp.toArray 44)
  have HB0 := Lib.hid hb0
  have hrne : w.heap.size ≠ r := by have := hr.lt; omega
  have hO0 : Only r w (w.alloc (.cells noOp.toArray 44)) := (Only.refl r w).alloc _
  have HO0 := Lib.hid hO0
  obtain ⟨W0, hW0⟩ : ∃ W0, w.alloc (.cells noOp.toArray 44) = W0 := ⟨_, rfl⟩
  rw [hW0] at HR0 HB0 HO0
  clear hr hz hb0 hO0
  go_enter Try.func29, Try.ntmps29
  have hWz : w.alloc (.cells #[.int .i64 0, .int .i64 0, .int .i64 0, .int .i64 0, .int .i64 0, .int .i64 0, .int .i64 0, .string ⟨#[]⟩, .bool false, .slice none 0 0, .int .i64 0, .int .i64 0, .int .i64 0, .int .i64 0, .int .i64 0, .int .i64 0, .string ⟨#[]⟩, .slice none 0 0] 44) = W0 := hW0
  go_wp2_with fail
  refine (rnat_any r s bad HZ.out _ HR0.out).mono ?_
  rintro e w1 ⟨kd, s1, b1, rfl, hk1, hr1, hp1, ho1⟩
  have HK1 := Lib.hid hk1
  have HP1 := Lib.hid hp1
  have HR1 := Lib.hid hr1
  have HO1 := Lib.hid (HO0.out.trans ho1)
  have HB01 := Lib.hid (ho1.box HB0.out hrne)
  clear hk1 hp1 hr1 ho1 hW0 hWz
  go_wp2_with fail
  refine (rid_any r s1 b1 (Nat.le_trans HP1.out.2.2 HZ.out) _ HR1.out).mono ?_
  rintro e w2 ⟨nd, s2, b2, rfl, hn2, hr2, hp2, ho2⟩
  have HN2 := Lib.hid hn2
  have HP2 := Lib.hid (HP1.out.pair hp2)
  have HO2 := Lib.hid (HO1.out.trans ho2)
  have HB02 := Lib.hid (ho2.box HB01.out hrne)
  have hsz2 : w.heap.size < w2.heap.size := (Array.getElem?_eq_some_iff.1 HB02.out).1
  have HZ2 : Hid (s2.length ≤ 1000000) := Nat.le_trans hp2.2.2 (Nat.le_trans HP1.out.2.2 HZ.out)
  have hR3 := hr2.keep (below_box (.cells (opR0 kd nd).cells.toArray 44))
  have hB3 := heap_alloc_new w2 (.cells (opR0 kd nd).cells.toArray 44)
  have hB03 := (Below.heap_alloc w2 (.cells (opR0 kd nd).cells.toArray 44) w.heap.size hsz2).trans HB02.out
  have hO3 := HO2.out.alloc (.cells (opR0 kd nd).cells.toArray 44)
  obtain ⟨W3, hW3⟩ : ∃ W3, w2.alloc (.cells (opR0 kd nd).cells.toArray 44) = W3 := ⟨_, rfl⟩
  have hsz3 : W3.heap.size = w2.heap.size + 1 := by rw [← hW3]; simp
  rw [hW3] at hR3 hB3 hB03 hO3
  have hrn1 : w2.heap.size ≠ r := by have := (Array.getElem?_eq_some_iff.1 hr2).1; omega
  have HR3 := Lib.hid hR3
  have HB3 := Lib.hid hB3
  have HB03 := Lib.hid hB03
  have HO3 := Lib.hid hO3
  obtain ⟨d0, d1, d2, d3, d4, d5, d6, d7, d8, d9, d10, d11, d12, d13, d14, d15, d16, d17⟩ := op_box (x := opR0 kd nd) hB3
  replace d0 : W3.cell? ⟨w2.heap.size, 0, none⟩ = some (.int .i64 kd) := d0
  clear hn2 hr2 hp2 ho2 hR3 hB3 hB03 hO3 d1 d2 d3 d4 d5 d6 d7 d8 d9 d10 d11 d12 d13 d14 d15 d16 d17
  by_cases hk : kd = 0
  · skip
    subst hk
    go_wp2_with (first | (refine wpList_store_fresh rfl 44 (.tmp 3) (.tmp 9) rfl _ (opR0 0 nd).cells.toArray rfl rfl (zero_of_info info_op).2 rfl (cells_one _) ?_))
    refine (rid_any r s2 b2 HZ2.out _ HR3.out).mono ?_
    rintro e w4 ⟨p, s4, c4, rfl, hd4, hr4, hp4, ho4⟩
    have HRX4 := Lib.hid hr4
    have HPX4 := Lib.hid hp4
    have HB1X4 := Lib.hid (ho4.box HB3.out hrn1)
    have HB0X4 := Lib.hid (ho4.box HB03.out hrne)
    have HOX4 := Lib.hid (HO3.out.trans ho4)
    clear hr4 hp4 ho4
    have HD4 := Lib.hid hd4
    have HZ4 : Hid (s4.length ≤ 1000000) := Nat.le_trans HPX4.out.2.2 HZ2.out
    clear hd4 d0 hW3 hsz3
    go_wp2_with fail
    refine (rtext_any r s4 c4 HZ4.out _ HRX4.out).mono ?_
    rintro e w5 ⟨t, s5, c5, rfl, hd5, hr5, hp5, ho5⟩
    have HRX5 := Lib.hid hr5
    have HPX5 := Lib.hid hp5
    have HB1X5 := Lib.hid (ho5.box HB1X4.out hrn1)
    have HB0X5 := Lib.hid (ho5.box HB0X4.out hrne)
    have HOX5 := Lib.hid (HOX4.out.trans ho5)
    clear hr5 hp5 ho5
    have HD5 := Lib.hid hd5
    have HZ5 : Hid (s5.length ≤ 1000000) := Nat.le_trans HPX5.out.2.2 HZ4.out
    clear hd5
    go_wp2_with fail
    refine (rflag_any r s5 c5 HZ5.out _ HRX5.out).mono ?_
    rintro e w6 ⟨v, s6, c6, rfl, hr6, hp6, ho6⟩
    have HRX6 := Lib.hid hr6
    have HPX6 := Lib.hid hp6
    have HB1X6 := Lib.hid (ho6.box HB1X5.out hrn1)
    have HB0X6 := Lib.hid (ho6.box HB0X5.out hrne)
    have HOX6 := Lib.hid (HOX5.out.trans ho6)
    clear hr6 hp6 ho6
    have HRl := HRX6
    have HB1l := HB1X6
    have HB0l := HB0X6
    have HOl := HOX6
    obtain ⟨x0, x1, x2, x3, x4, x5, x6, x7, x8, x9, x10, x11, x12, x13, x14, x15, x16, x17⟩ := op_box (x := opR0 0 nd) HB1l.out
    clear x0 x1 x2 x3 x9 x10 x11 x12 x13 x14 x15 x16 x17
    have f4 := frozen_of_row w6 w2.heap.size 4 _ 44 HB1l.out
    have f5 := frozen_of_row w6 w2.heap.size 5 _ 44 HB1l.out
    have f6 := frozen_of_row w6 w2.heap.size 6 _ 44 HB1l.out
    have f7 := frozen_of_row w6 w2.heap.size 7 _ 44 HB1l.out
    have f8 := frozen_of_row w6 w2.heap.size 8 _ 44 HB1l.out
    have h1 := heap_setCell_same w6 w2.heap.size 4 _ 44 (.int .i64 p.1) HB1l.out
    have h2 := heap_setCell_same (w6.setCell ⟨w2.heap.size, 4, none⟩ (.int .i64 p.1)) w2.heap.size 5 _ 44 (.int .i64 p.2.1) h1
    have h3 := heap_setCell_same ((w6.setCell ⟨w2.heap.size, 4, none⟩ (.int .i64 p.1)).setCell ⟨w2.heap.size, 5, none⟩ (.int .i64 p.2.1)) w2.heap.size 6 _ 44 (.int .i64 p.2.2) h2
    have h4 := heap_setCell_same (((w6.setCell ⟨w2.heap.size, 4, none⟩ (.int .i64 p.1)).setCell ⟨w2.heap.size, 5, none⟩ (.int .i64 p.2.1)).setCell ⟨w2.heap.size, 6, none⟩ (.int .i64 p.2.2)) w2.heap.size 7 _ 44 (.string (bs t)) h3
    have h5 := heap_setCell_same ((((w6.setCell ⟨w2.heap.size, 4, none⟩ (.int .i64 p.1)).setCell ⟨w2.heap.size, 5, none⟩ (.int .i64 p.2.1)).setCell ⟨w2.heap.size, 6, none⟩ (.int .i64 p.2.2)).setCell ⟨w2.heap.size, 7, none⟩ (.string (bs t))) w2.heap.size 8 _ 44 (.bool v) h4
    have hset : Only w2.heap.size w6 (((((w6.setCell ⟨w2.heap.size, 4, none⟩ (.int .i64 p.1)).setCell ⟨w2.heap.size, 5, none⟩ (.int .i64 p.2.1)).setCell ⟨w2.heap.size, 6, none⟩ (.int .i64 p.2.2)).setCell ⟨w2.heap.size, 7, none⟩ (.string (bs t))).setCell ⟨w2.heap.size, 8, none⟩ (.bool v)) := ((((((Only.refl w2.heap.size w6).trans (Only.set w6 4 (.int .i64 p.1))).trans (Only.set (w6.setCell ⟨w2.heap.size, 4, none⟩ (.int .i64 p.1)) 5 (.int .i64 p.2.1))).trans (Only.set ((w6.setCell ⟨w2.heap.size, 4, none⟩ (.int .i64 p.1)).setCell ⟨w2.heap.size, 5, none⟩ (.int .i64 p.2.1)) 6 (.int .i64 p.2.2))).trans (Only.set (((w6.setCell ⟨w2.heap.size, 4, none⟩ (.int .i64 p.1)).setCell ⟨w2.heap.size, 5, none⟩ (.int .i64 p.2.1)).setCell ⟨w2.heap.size, 6, none⟩ (.int .i64 p.2.2)) 7 (.string (bs t)))).trans (Only.set ((((w6.setCell ⟨w2.heap.size, 4, none⟩ (.int .i64 p.1)).setCell ⟨w2.heap.size, 5, none⟩ (.int .i64 p.2.1)).setCell ⟨w2.heap.size, 6, none⟩ (.int .i64 p.2.2)).setCell ⟨w2.heap.size, 7, none⟩ (.string (bs t))) 8 (.bool v)))
    have hy : ((((((opR0 0 nd).cells.toArray.setIfInBounds 4 (.int .i64 p.1)).setIfInBounds 5 (.int .i64 p.2.1)).setIfInBounds 6 (.int .i64 p.2.2)).setIfInBounds 7 (.string (bs t))).setIfInBounds 8 (.bool v)) = (⟨{ opn0 (0, nd) with parent := p, name := t, dir := v }, none, 0, none, 0⟩ : OpR).cells.toArray := by simp [OpR.cells, opR0, opn0]
    rw [hy] at h5
    have hR5 : Rdr (((((w6.setCell ⟨w2.heap.size, 4, none⟩ (.int .i64 p.1)).setCell ⟨w2.heap.size, 5, none⟩ (.int .i64 p.2.1)).setCell ⟨w2.heap.size, 6, none⟩ (.int .i64 p.2.2)).setCell ⟨w2.heap.size, 7, none⟩ (.string (bs t))).setCell ⟨w2.heap.size, 8, none⟩ (.bool v)) r s6 c6 := hset.box HRl.out (Ne.symm hrn1)
    have hB05 : (((((w6.setCell ⟨w2.heap.size, 4, none⟩ (.int .i64 p.1)).setCell ⟨w2.heap.size, 5, none⟩ (.int .i64 p.2.1)).setCell ⟨w2.heap.size, 6, none⟩ (.int .i64 p.2.2)).setCell ⟨w2.heap.size, 7, none⟩ (.string (bs t))).setCell ⟨w2.heap.size, 8, none⟩ (.bool v)).heap[w.heap.size]? = some (.cells noOp.toArray 44 (0, 0)) := hset.box HB0l.out (by omega)
    have hO5 : Only r w (((((w6.setCell ⟨w2.heap.size, 4, none⟩ (.int .i64 p.1)).setCell ⟨w2.heap.size, 5, none⟩ (.int .i64 p.2.1)).setCell ⟨w2.heap.size, 6, none⟩ (.int .i64 p.2.2)).setCell ⟨w2.heap.size, 7, none⟩ (.string (bs t))).setCell ⟨w2.heap.size, 8, none⟩ (.bool v)) := HOl.out.plus hset (Nat.le_of_lt hsz2)
    have hGD : (((((w6.setCell ⟨w2.heap.size, 4, none⟩ (.int .i64 p.1)).setCell ⟨w2.heap.size, 5, none⟩ (.int .i64 p.2.1)).setCell ⟨w2.heap.size, 6, none⟩ (.int .i64 p.2.2)).setCell ⟨w2.heap.size, 7, none⟩ (.string (bs t))).setCell ⟨w2.heap.size, 8, none⟩ (.bool v)).ownsRow w.heap.size 23 2 (.slice none 0 0) 0 [] := World.ownsRow_nil _ _ _ _
    have hGE : (((((w6.setCell ⟨w2.heap.size, 4, none⟩ (.int .i64 p.1)).setCell ⟨w2.heap.size, 5, none⟩ (.int .i64 p.2.1)).setCell ⟨w2.heap.size, 6, none⟩ (.int .i64 p.2.2)).setCell ⟨w2.heap.size, 7, none⟩ (.string (bs t))).setCell ⟨w2.heap.size, 8, none⟩ (.bool v)).ownsRow w.heap.size 40 3 (.slice none 0 0) 0 [] := World.ownsRow_nil _ _ _ _
    obtain ⟨W5, hW5⟩ : ∃ W5, (((((w6.setCell ⟨w2.heap.size, 4, none⟩ (.int .i64 p.1)).setCell ⟨w2.heap.size, 5, none⟩ (.int .i64 p.2.1)).setCell ⟨w2.heap.size, 6, none⟩ (.int .i64 p.2.2)).setCell ⟨w2.heap.size, 7, none⟩ (.string (bs t))).setCell ⟨w2.heap.size, 8, none⟩ (.bool v)) = W5 := ⟨_, rfl⟩
    rw [hW5] at h5 hR5 hB05 hO5 hGD hGE
    have HG5 : Hid (OpGood W5 w.heap.size ⟨{ opn0 (0, nd) with parent := p, name := t, dir := v }, none, 0, none, 0⟩) := ⟨hGD, hGE, HK1.out, HN2.out, HD4.out, none3_D, none3_D, (by intro s hs; cases hs), (by intro s hs; cases hs), Nat.le_trans HD5.out HZ4.out, by simp [opn0], by simp [opn0], by simp [opn0]⟩
    have HR5 := Lib.hid hR5
    have HB05 := Lib.hid hB05
    have HO5 := Lib.hid hO5
    have HY := Lib.hid h5
    have HP5 : Hid (RP pOpX s bad (⟨{ opn0 (0, nd) with parent := p, name := t, dir := v }, none, 0, none, 0⟩ : OpR).o s6 c6) := by
      show RP _ _ _ _ _ _
      exact HP2.out.bind (q := qOpX) (by
        show RP (qOpX (0, nd)) _ _ _ _ _
        unfold qOpX
        rw [if_pos rfl]
        exact (HPX4.out.pair (HPX5.out.pair HPX6.out)).map _)
    clear h1 h2 h3 h4 h5 hset hy hR5 hB05 hO5 hGD hGE
    obtain ⟨yy, hyy⟩ : ∃ yy : OpR, ⟨{ opn0 (0, nd) with parent := p, name := t, dir := v }, none, 0, none, 0⟩ = yy := ⟨_, rfl⟩
    rw [hyy] at HG5 HY HP5
    have HRA := Lib.hid (range_block HY.out)
    have hth := there_block HB05.out
    rw [noop_size yy] at hth
    have HTH := Lib.hid hth
    clear hth
    clear hyy
    have hend := rop_end HB05.out HR5.out HG5.out HP5.out HO5.out hrne
    have hrg := World.rangeAt_setCells_same W5 w.heap.size 0 yy.cells HTH.out
    obtain ⟨W6, hW6⟩ : ∃ W6, W5.setCells w.heap.size 0 yy.cells = W6 := ⟨_, rfl⟩
    rw [show yy.cells.toArray.toList = yy.cells from rfl, hW6] at hend
    rw [hW6] at hrg
    have HEND := Lib.hid hend
    have HRG := Lib.hid hrg
    have HW6 := Lib.hid hW6
    clear hend hrg hW6
    clear HP1 HP2 HRl HB1l HB0l HOl HRX4 HPX4 HB1X4 HB0X4 HOX4 HRX5 HPX5 HB1X5 HB0X5 HOX5 HRX6 HPX6 HB1X6 HB0X6 HOX6
    go_upto_region 14 with fail
    go_wp2_with (first | (refine wpList_load_mid rfl 44 (.tmp 3) rfl w2.heap.size 0 rfl yy.cells _ HRA.out Try.underlying44 rfl (zero_of_info info_op).2 ?_) | (refine st_row rfl (.tmp 2) (.tmp 52) rfl w.heap.size yy rfl rfl HB05.out ?_; rw [HW6.out]; clear HRA HTH HY HB05 HG5 HP5 HR5 HO5))
    exact bodyPost_ret (results_row rfl _ _ _ w.heap.size 0 yy.cells _ rfl HRG.out Try.underlying44 rfl (zero_of_info info_op).2) rfl HEND.out
  have k0 := hk
  clear hk
  by_cases hk : kd = 1
  · skip
    subst hk
    go_wp2_with (first | (refine wpList_store_fresh rfl 44 (.tmp 3) (.tmp 9) rfl _ (opR0 1 nd).cells.toArray rfl rfl (zero_of_info info_op).2 rfl (cells_one _) ?_))
    refine (rid_any r s2 b2 HZ2.out _ HR3.out).mono ?_
    rintro e w4 ⟨p, s4, c4, rfl, hd4, hr4, hp4, ho4⟩
    have HRX4 := Lib.hid hr4
    have HPX4 := Lib.hid hp4
    have HB1X4 := Lib.hid (ho4.box HB3.out hrn1)
    have HB0X4 := Lib.hid (ho4.box HB03.out hrne)
    have HOX4 := Lib.hid (HO3.out.trans ho4)
    clear hr4 hp4 ho4
    have HD4 := Lib.hid hd4
    have HZ4 : Hid (s4.length ≤ 1000000) := Nat.le_trans HPX4.out.2.2 HZ2.out
    clear hd4 d0 hW3 hsz3
    go_wp2_with fail
    refine (rtext_any r s4 c4 HZ4.out _ HRX4.out).mono ?_
    rintro e w5 ⟨t, s5, c5, rfl, hd5, hr5, hp5, ho5⟩
    have HRX5 := Lib.hid hr5
    have HPX5 := Lib.hid hp5
    have HB1X5 := Lib.hid (ho5.box HB1X4.out hrn1)
    have HB0X5 := Lib.hid (ho5.box HB0X4.out hrne)
    have HOX5 := Lib.hid (HOX4.out.trans ho5)
    clear hr5 hp5 ho5
    have HD5 := Lib.hid hd5
    have HZ5 : Hid (s5.length ≤ 1000000) := Nat.le_trans HPX5.out.2.2 HZ4.out
    clear hd5
    go_wp2_with fail
    refine (rnodir_any _).mono ?_
    rintro e w6 ⟨rfl, rfl⟩
    have HRl := HRX5
    have HB1l := HB1X5
    have HB0l := HB0X5
    have HOl := HOX5
    obtain ⟨x0, x1, x2, x3, x4, x5, x6, x7, x8, x9, x10, x11, x12, x13, x14, x15, x16, x17⟩ := op_box (x := opR0 1 nd) HB1l.out
    clear x0 x1 x2 x3 x9 x10 x11 x12 x13 x14 x15 x16 x17
    have f4 := frozen_of_row w6 w2.heap.size 4 _ 44 HB1l.out
    have f5 := frozen_of_row w6 w2.heap.size 5 _ 44 HB1l.out
    have f6 := frozen_of_row w6 w2.heap.size 6 _ 44 HB1l.out
    have f7 := frozen_of_row w6 w2.heap.size 7 _ 44 HB1l.out
    have f8 := frozen_of_row w6 w2.heap.size 8 _ 44 HB1l.out
    have h1 := heap_setCell_same w6 w2.heap.size 4 _ 44 (.int .i64 p.1) HB1l.out
    have h2 := heap_setCell_same (w6.setCell ⟨w2.heap.size, 4, none⟩ (.int .i64 p.1)) w2.heap.size 5 _ 44 (.int .i64 p.2.1) h1
    have h3 := heap_setCell_same ((w6.setCell ⟨w2.heap.size, 4, none⟩ (.int .i64 p.1)).setCell ⟨w2.heap.size, 5, none⟩ (.int .i64 p.2.1)) w2.heap.size 6 _ 44 (.int .i64 p.2.2) h2
    have h4 := heap_setCell_same (((w6.setCell ⟨w2.heap.size, 4, none⟩ (.int .i64 p.1)).setCell ⟨w2.heap.size, 5, none⟩ (.int .i64 p.2.1)).setCell ⟨w2.heap.size, 6, none⟩ (.int .i64 p.2.2)) w2.heap.size 7 _ 44 (.string (bs t)) h3
    have h5 := heap_setCell_same ((((w6.setCell ⟨w2.heap.size, 4, none⟩ (.int .i64 p.1)).setCell ⟨w2.heap.size, 5, none⟩ (.int .i64 p.2.1)).setCell ⟨w2.heap.size, 6, none⟩ (.int .i64 p.2.2)).setCell ⟨w2.heap.size, 7, none⟩ (.string (bs t))) w2.heap.size 8 _ 44 (.bool false) h4
    have hset : Only w2.heap.size w6 (((((w6.setCell ⟨w2.heap.size, 4, none⟩ (.int .i64 p.1)).setCell ⟨w2.heap.size, 5, none⟩ (.int .i64 p.2.1)).setCell ⟨w2.heap.size, 6, none⟩ (.int .i64 p.2.2)).setCell ⟨w2.heap.size, 7, none⟩ (.string (bs t))).setCell ⟨w2.heap.size, 8, none⟩ (.bool false)) := ((((((Only.refl w2.heap.size w6).trans (Only.set w6 4 (.int .i64 p.1))).trans (Only.set (w6.setCell ⟨w2.heap.size, 4, none⟩ (.int .i64 p.1)) 5 (.int .i64 p.2.1))).trans (Only.set ((w6.setCell ⟨w2.heap.size, 4, none⟩ (.int .i64 p.1)).setCell ⟨w2.heap.size, 5, none⟩ (.int .i64 p.2.1)) 6 (.int .i64 p.2.2))).trans (Only.set (((w6.setCell ⟨w2.heap.size, 4, none⟩ (.int .i64 p.1)).setCell ⟨w2.heap.size, 5, none⟩ (.int .i64 p.2.1)).setCell ⟨w2.heap.size, 6, none⟩ (.int .i64 p.2.2)) 7 (.string (bs t)))).trans (Only.set ((((w6.setCell ⟨w2.heap.size, 4, none⟩ (.int .i64 p.1)).setCell ⟨w2.heap.size, 5, none⟩ (.int .i64 p.2.1)).setCell ⟨w2.heap.size, 6, none⟩ (.int .i64 p.2.2)).setCell ⟨w2.heap.size, 7, none⟩ (.string (bs t))) 8 (.bool false)))
    have hy : ((((((opR0 1 nd).cells.toArray.setIfInBounds 4 (.int .i64 p.1)).setIfInBounds 5 (.int .i64 p.2.1)).setIfInBounds 6 (.int .i64 p.2.2)).setIfInBounds 7 (.string (bs t))).setIfInBounds 8 (.bool false)) = (⟨{ opn0 (1, nd) with parent := p, name := t }, none, 0, none, 0⟩ : OpR).cells.toArray := by simp [OpR.cells, opR0, opn0]
    rw [hy] at h5
    have hR5 : Rdr (((((w6.setCell ⟨w2.heap.size, 4, none⟩ (.int .i64 p.1)).setCell ⟨w2.heap.size, 5, none⟩ (.int .i64 p.2.1)).setCell ⟨w2.heap.size, 6, none⟩ (.int .i64 p.2.2)).setCell ⟨w2.heap.size, 7, none⟩ (.string (bs t))).setCell ⟨w2.heap.size, 8, none⟩ (.bool false)) r s5 c5 := hset.box HRl.out (Ne.symm hrn1)
    have hB05 : (((((w6.setCell ⟨w2.heap.size, 4, none⟩ (.int .i64 p.1)).setCell ⟨w2.heap.size, 5, none⟩ (.int .i64 p.2.1)).setCell ⟨w2.heap.size, 6, none⟩ (.int .i64 p.2.2)).setCell ⟨w2.heap.size, 7, none⟩ (.string (bs t))).setCell ⟨w2.heap.size, 8, none⟩ (.bool false)).heap[w.heap.size]? = some (.cells noOp.toArray 44 (0, 0)) := hset.box HB0l.out (by omega)
    have hO5 : Only r w (((((w6.setCell ⟨w2.heap.size, 4, none⟩ (.int .i64 p.1)).setCell ⟨w2.heap.size, 5, none⟩ (.int .i64 p.2.1)).setCell ⟨w2.heap.size, 6, none⟩ (.int .i64 p.2.2)).setCell ⟨w2.heap.size, 7, none⟩ (.string (bs t))).setCell ⟨w2.heap.size, 8, none⟩ (.bool false)) := HOl.out.plus hset (Nat.le_of_lt hsz2)
    have hGD : (((((w6.setCell ⟨w2.heap.size, 4, none⟩ (.int .i64 p.1)).setCell ⟨w2.heap.size, 5, none⟩ (.int .i64 p.2.1)).setCell ⟨w2.heap.size, 6, none⟩ (.int .i64 p.2.2)).setCell ⟨w2.heap.size, 7, none⟩ (.string (bs t))).setCell ⟨w2.heap.size, 8, none⟩ (.bool false)).ownsRow w.heap.size 23 2 (.slice none 0 0) 0 [] := World.ownsRow_nil _ _ _ _
    have hGE : (((((w6.setCell ⟨w2.heap.size, 4, none⟩ (.int .i64 p.1)).setCell ⟨w2.heap.size, 5, none⟩ (.int .i64 p.2.1)).setCell ⟨w2.heap.size, 6, none⟩ (.int .i64 p.2.2)).setCell ⟨w2.heap.size, 7, none⟩ (.string (bs t))).setCell ⟨w2.heap.size, 8, none⟩ (.bool false)).ownsRow w.heap.size 40 3 (.slice none 0 0) 0 [] := World.ownsRow_nil _ _ _ _
    obtain ⟨W5, hW5⟩ : ∃ W5, (((((w6.setCell ⟨w2.heap.size, 4, none⟩ (.int .i64 p.1)).setCell ⟨w2.heap.size, 5, none⟩ (.int .i64 p.2.1)).setCell ⟨w2.heap.size, 6, none⟩ (.int .i64 p.2.2)).setCell ⟨w2.heap.size, 7, none⟩ (.string (bs t))).setCell ⟨w2.heap.size, 8, none⟩ (.bool false)) = W5 := ⟨_, rfl⟩
    rw [hW5] at h5 hR5 hB05 hO5 hGD hGE
    have HG5 : Hid (OpGood W5 w.heap.size ⟨{ opn0 (1, nd) with parent := p, name := t }, none, 0, none, 0⟩) := ⟨hGD, hGE, HK1.out, HN2.out, HD4.out, none3_D, none3_D, (by intro s hs; cases hs), (by intro s hs; cases hs), Nat.le_trans HD5.out HZ4.out, by simp [opn0], by simp [opn0], by simp [opn0]⟩
    have HR5 := Lib.hid hR5
    have HB05 := Lib.hid hB05
    have HO5 := Lib.hid hO5
    have HY := Lib.hid h5
    have HP5 : Hid (RP pOpX s bad (⟨{ opn0 (1, nd) with parent := p, name := t }, none, 0, none, 0⟩ : OpR).o s5 c5) := by
      show RP _ _ _ _ _ _
      exact HP2.out.bind (q := qOpX) (by
        show RP (qOpX (1, nd)) _ _ _ _ _
        unfold qOpX
        rw [if_neg (show ¬ ((1 : Int) = 0) by decide), if_pos rfl]
        exact (HPX4.out.pair HPX5.out).map _)
    clear h1 h2 h3 h4 h5 hset hy hR5 hB05 hO5 hGD hGE
    obtain ⟨yy, hyy⟩ : ∃ yy : OpR, ⟨{ opn0 (1, nd) with parent := p, name := t }, none, 0, none, 0⟩ = yy := ⟨_, rfl⟩
    rw [hyy] at HG5 HY HP5
    have HRA := Lib.hid (range_block HY.out)
    have hth := there_block HB05.out
    rw [noop_size yy] at hth
    have HTH := Lib.hid hth
    clear hth
    clear hyy
    have hend := rop_end HB05.out HR5.out HG5.out HP5.out HO5.out hrne
    have hrg := World.rangeAt_setCells_same W5 w.heap.size 0 yy.cells HTH.out
    obtain ⟨W6, hW6⟩ : ∃ W6, W5.setCells w.heap.size 0 yy.cells = W6 := ⟨_, rfl⟩
    rw [show yy.cells.toArray.toList = yy.cells from rfl, hW6] at hend
    rw [hW6] at hrg
    have HEND := Lib.hid hend
    have HRG := Lib.hid hrg
    have HW6 := Lib.hid hW6
    clear hend hrg hW6
    clear HP1 HP2 HRl HB1l HB0l HOl HRX4 HPX4 HB1X4 HB0X4 HOX4 HRX5 HPX5 HB1X5 HB0X5 HOX5
    go_upto_region 14 with fail
    go_wp2_with (first | (refine wpList_load_mid rfl 44 (.tmp 3) rfl w2.heap.size 0 rfl yy.cells _ HRA.out Try.underlying44 rfl (zero_of_info info_op).2 ?_) | (refine st_row rfl (.tmp 2) (.tmp 52) rfl w.heap.size yy rfl rfl HB05.out ?_; rw [HW6.out]; clear HRA HTH HY HB05 HG5 HP5 HR5 HO5))
    exact bodyPost_ret (results_row rfl _ _ _ w.heap.size 0 yy.cells _ rfl HRG.out Try.underlying44 rfl (zero_of_info info_op).2) rfl HEND.out
  have k1 := hk
  clear hk
  by_cases hk : kd = 2
  · skip
    subst hk
    go_wp2_with (first | (refine wpList_store_fresh rfl 44 (.tmp 3) (.tmp 9) rfl _ (opR0 2 nd).cells.toArray rfl rfl (zero_of_info info_op).2 rfl (cells_one _) ?_))
    refine (rstamps_any 200 (by omega) r s2 b2 HZ2.out _ HR3.out).mono ?_
    rintro e w4 ⟨v4, l4, s4, c4, rfl, how4, hD4, hL4, hr4, hp4, ho4⟩
    obtain ⟨A4, cp4, hv4⟩ := own_form how4
    subst hv4
    have HRX4 := Lib.hid hr4
    have HPX4 := Lib.hid hp4
    have HB1X4 := Lib.hid (ho4.box HB3.out hrn1)
    have HB0X4 := Lib.hid (ho4.box HB03.out hrne)
    have HOX4 := Lib.hid (HO3.out.trans ho4)
    have HW4 := Lib.hid (own_mono how4 (show w.heap.size ≤ W3.heap.size by omega))
    have HD4 := Lib.hid hD4
    have HL4 := Lib.hid hL4
    clear hr4 hp4 ho4 how4 hD4 hL4 d0 hW3 hsz3
    have HRl := HRX4
    have HB1l := HB1X4
    have HB0l := HB0X4
    have HOl := HOX4
    obtain ⟨x0, x1, x2, x3, x4, x5, x6, x7, x8, x9, x10, x11, x12, x13, x14, x15, x16, x17⟩ := op_box (x := opR0 2 nd) HB1l.out
    clear x0 x1 x2 x3 x4 x5 x6 x7 x8 x10 x11 x12 x13 x14 x15 x16 x17
    have f9 := frozen_of_row w4 w2.heap.size 9 _ 44 HB1l.out
    have h1 := heap_setCell_same w4 w2.heap.size 9 _ 44 (.slice A4 l4.length cp4) HB1l.out
    have hset : Only w2.heap.size w4 (w4.setCell ⟨w2.heap.size, 9, none⟩ (.slice A4 l4.length cp4)) := ((Only.refl w2.heap.size w4).trans (Only.set w4 9 (.slice A4 l4.length cp4)))
    have hy : ((opR0 2 nd).cells.toArray.setIfInBounds 9 (.slice A4 l4.length cp4)) = (⟨{ opn0 (2, nd) with dots := l4 }, A4, cp4, none, 0⟩ : OpR).cells.toArray := by simp [OpR.cells, opR0, opn0]
    rw [hy] at h1
    have hR5 : Rdr (w4.setCell ⟨w2.heap.size, 9, none⟩ (.slice A4 l4.length cp4)) r s4 c4 := hset.box HRl.out (Ne.symm hrn1)
    have hB05 : (w4.setCell ⟨w2.heap.size, 9, none⟩ (.slice A4 l4.length cp4)).heap[w.heap.size]? = some (.cells noOp.toArray 44 (0, 0)) := hset.box HB0l.out (by omega)
    have hO5 : Only r w (w4.setCell ⟨w2.heap.size, 9, none⟩ (.slice A4 l4.length cp4)) := HOl.out.plus hset (Nat.le_of_lt hsz2)
    have hGD : (w4.setCell ⟨w2.heap.size, 9, none⟩ (.slice A4 l4.length cp4)).ownsRow w.heap.size 23 2 (.slice A4 l4.length cp4) l4.length (l4.flatMap stampC) := own_sets HW4.out hset HB1l.out (by decide)
    have hGE : (w4.setCell ⟨w2.heap.size, 9, none⟩ (.slice A4 l4.length cp4)).ownsRow w.heap.size 40 3 (.slice none 0 0) 0 [] := World.ownsRow_nil _ _ _ _
    obtain ⟨W5, hW5⟩ : ∃ W5, (w4.setCell ⟨w2.heap.size, 9, none⟩ (.slice A4 l4.length cp4)) = W5 := ⟨_, rfl⟩
    rw [hW5] at h1 hR5 hB05 hO5 hGD hGE
    have HG5 : Hid (OpGood W5 w.heap.size ⟨{ opn0 (2, nd) with dots := l4 }, A4, cp4, none, 0⟩) := ⟨hGD, hGE, HK1.out, HN2.out, none3_D, none3_D, none3_D, HD4.out, (by intro s hs; cases hs), by simp [opn0], by simp [opn0], HL4.out, by simp [opn0]⟩
    have HR5 := Lib.hid hR5
    have HB05 := Lib.hid hB05
    have HO5 := Lib.hid hO5
    have HY := Lib.hid h1
    have HP5 : Hid (RP pOpX s bad (⟨{ opn0 (2, nd) with dots := l4 }, A4, cp4, none, 0⟩ : OpR).o s4 c4) := by
      show RP _ _ _ _ _ _
      exact HP2.out.bind (q := qOpX) (by
        show RP (qOpX (2, nd)) _ _ _ _ _
        unfold qOpX
        rw [if_neg (show ¬ ((2 : Int) = 0) by decide), if_neg (show ¬ ((2 : Int) = 1) by decide), if_pos rfl]
        exact HPX4.out.map _)
    clear h1 hset hy hR5 hB05 hO5 hGD hGE
    obtain ⟨yy, hyy⟩ : ∃ yy : OpR, ⟨{ opn0 (2, nd) with dots := l4 }, A4, cp4, none, 0⟩ = yy := ⟨_, rfl⟩
    rw [hyy] at HG5 HY HP5
    have HRA := Lib.hid (range_block HY.out)
    have hth := there_block HB05.out
    rw [noop_size yy] at hth
    have HTH := Lib.hid hth
    clear hth
    clear hyy
    have hend := rop_end HB05.out HR5.out HG5.out HP5.out HO5.out hrne
    have hrg := World.rangeAt_setCells_same W5 w.heap.size 0 yy.cells HTH.out
    obtain ⟨W6, hW6⟩ : ∃ W6, W5.setCells w.heap.size 0 yy.cells = W6 := ⟨_, rfl⟩
    rw [show yy.cells.toArray.toList = yy.cells from rfl, hW6] at hend
    rw [hW6] at hrg
    have HEND := Lib.hid hend
    have HRG := Lib.hid hrg
    have HW6 := Lib.hid hW6
    clear hend hrg hW6
    clear HP1 HP2 HRl HB1l HB0l HOl HRX4 HPX4 HB1X4 HB0X4 HOX4 HW4 HD4 HL4
    go_upto_region 14 with fail
    go_wp2_with (first | (refine wpList_load_mid rfl 44 (.tmp 3) rfl w2.heap.size 0 rfl yy.cells _ HRA.out Try.underlying44 rfl (zero_of_info info_op).2 ?_) | (refine st_row rfl (.tmp 2) (.tmp 52) rfl w.heap.size yy rfl rfl HB05.out ?_; rw [HW6.out]; clear HRA HTH HY HB05 HG5 HP5 HR5 HO5))
    exact bodyPost_ret (results_row rfl _ _ _ w.heap.size 0 yy.cells _ rfl HRG.out Try.underlying44 rfl (zero_of_info info_op).2) rfl HEND.out
  have k2 := hk
  clear hk
  by_cases hk : kd = 3
  · skip
    subst hk
    go_wp2_with (first | (refine wpList_store_fresh rfl 44 (.tmp 3) (.tmp 9) rfl _ (opR0 3 nd).cells.toArray rfl rfl (zero_of_info info_op).2 rfl (cells_one _) ?_))
    refine (rid_any r s2 b2 HZ2.out _ HR3.out).mono ?_
    rintro e w4 ⟨p, s4, c4, rfl, hd4, hr4, hp4, ho4⟩
    have HRX4 := Lib.hid hr4
    have HPX4 := Lib.hid hp4
    have HB1X4 := Lib.hid (ho4.box HB3.out hrn1)
    have HB0X4 := Lib.hid (ho4.box HB03.out hrne)
    have HOX4 := Lib.hid (HO3.out.trans ho4)
    clear hr4 hp4 ho4
    have HD4 := Lib.hid hd4
    have HZ4 : Hid (s4.length ≤ 1000000) := Nat.le_trans HPX4.out.2.2 HZ2.out
    clear hd4 d0 hW3 hsz3
    go_wp2_with fail
    refine (rid_any r s4 c4 HZ4.out _ HRX4.out).mono ?_
    rintro e w5 ⟨q, s5, c5, rfl, hd5, hr5, hp5, ho5⟩
    have HRX5 := Lib.hid hr5
    have HPX5 := Lib.hid hp5
    have HB1X5 := Lib.hid (ho5.box HB1X4.out hrn1)
    have HB0X5 := Lib.hid (ho5.box HB0X4.out hrne)
    have HOX5 := Lib.hid (HOX4.out.trans ho5)
    clear hr5 hp5 ho5
    have HD5 := Lib.hid hd5
    have HZ5 : Hid (s5.length ≤ 1000000) := Nat.le_trans HPX5.out.2.2 HZ4.out
    clear hd5
    go_wp2_with fail
    refine (rtext_any r s5 c5 HZ5.out _ HRX5.out).mono ?_
    rintro e w6 ⟨t, s6, c6, rfl, hd6, hr6, hp6, ho6⟩
    have HRX6 := Lib.hid hr6
    have HPX6 := Lib.hid hp6
    have HB1X6 := Lib.hid (ho6.box HB1X5.out hrn1)
    have HB0X6 := Lib.hid (ho6.box HB0X5.out hrne)
    have HOX6 := Lib.hid (HOX5.out.trans ho6)
    clear hr6 hp6 ho6
    have HD6 := Lib.hid hd6
    clear hd6
    have HRl := HRX6
    have HB1l := HB1X6
    have HB0l := HB0X6
    have HOl := HOX6
    obtain ⟨x0, x1, x2, x3, x4, x5, x6, x7, x8, x9, x10, x11, x12, x13, x14, x15, x16, x17⟩ := op_box (x := opR0 3 nd) HB1l.out
    clear x0 x1 x2 x3 x4 x5 x6 x7 x8 x9 x17
    have f10 := frozen_of_row w6 w2.heap.size 10 _ 44 HB1l.out
    have f11 := frozen_of_row w6 w2.heap.size 11 _ 44 HB1l.out
    have f12 := frozen_of_row w6 w2.heap.size 12 _ 44 HB1l.out
    have f13 := frozen_of_row w6 w2.heap.size 13 _ 44 HB1l.out
    have f14 := frozen_of_row w6 w2.heap.size 14 _ 44 HB1l.out
    have f15 := frozen_of_row w6 w2.heap.size 15 _ 44 HB1l.out
    have f16 := frozen_of_row w6 w2.heap.size 16 _ 44 HB1l.out
    have h1 := heap_setCell_same w6 w2.heap.size 10 _ 44 (.int .i64 p.1) HB1l.out
    have h2 := heap_setCell_same (w6.setCell ⟨w2.heap.size, 10, none⟩ (.int .i64 p.1)) w2.heap.size 11 _ 44 (.int .i64 p.2.1) h1
    have h3 := heap_setCell_same ((w6.setCell ⟨w2.heap.size, 10, none⟩ (.int .i64 p.1)).setCell ⟨w2.heap.size, 11, none⟩ (.int .i64 p.2.1)) w2.heap.size 12 _ 44 (.int .i64 p.2.2) h2
    have h4 := heap_setCell_same (((w6.setCell ⟨w2.heap.size, 10, none⟩ (.int .i64 p.1)).setCell ⟨w2.heap.size, 11, none⟩ (.int .i64 p.2.1)).setCell ⟨w2.heap.size, 12, none⟩ (.int .i64 p.2.2)) w2.heap.size 13 _ 44 (.int .i64 q.1) h3
    have h5 := heap_setCell_same ((((w6.setCell ⟨w2.heap.size, 10, none⟩ (.int .i64 p.1)).setCell ⟨w2.heap.size, 11, none⟩ (.int .i64 p.2.1)).setCell ⟨w2.heap.size, 12, none⟩ (.int .i64 p.2.2)).setCell ⟨w2.heap.size, 13, none⟩ (.int .i64 q.1)) w2.heap.size 14 _ 44 (.int .i64 q.2.1) h4
    have h6 := heap_setCell_same (((((w6.setCell ⟨w2.heap.size, 10, none⟩ (.int .i64 p.1)).setCell ⟨w2.heap.size, 11, none⟩ (.int .i64 p.2.1)).setCell ⟨w2.heap.size, 12, none⟩ (.int .i64 p.2.2)).setCell ⟨w2.heap.size, 13, none⟩ (.int .i64 q.1)).setCell ⟨w2.heap.size, 14, none⟩ (.int .i64 q.2.1)) w2.heap.size 15 _ 44 (.int .i64 q.2.2) h5
    have h7 := heap_setCell_same ((((((w6.setCell ⟨w2.heap.size, 10, none⟩ (.int .i64 p.1)).setCell ⟨w2.heap.size, 11, none⟩ (.int .i64 p.2.1)).setCell ⟨w2.heap.size, 12, none⟩ (.int .i64 p.2.2)).setCell ⟨w2.heap.size, 13, none⟩ (.int .i64 q.1)).setCell ⟨w2.heap.size, 14, none⟩ (.int .i64 q.2.1)).setCell ⟨w2.heap.size, 15, none⟩ (.int .i64 q.2.2)) w2.heap.size 16 _ 44 (.string (bs t)) h6
    have hset : Only w2.heap.size w6 (((((((w6.setCell ⟨w2.heap.size, 10, none⟩ (.int .i64 p.1)).setCell ⟨w2.heap.size, 11, none⟩ (.int .i64 p.2.1)).setCell ⟨w2.heap.size, 12, none⟩ (.int .i64 p.2.2)).setCell ⟨w2.heap.size, 13, none⟩ (.int .i64 q.1)).setCell ⟨w2.heap.size, 14, none⟩ (.int .i64 q.2.1)).setCell ⟨w2.heap.size, 15, none⟩ (.int .i64 q.2.2)).setCell ⟨w2.heap.size, 16, none⟩ (.string (bs t))) := ((((((((Only.refl w2.heap.size w6).trans (Only.set w6 10 (.int .i64 p.1))).trans (Only.set (w6.setCell ⟨w2.heap.size, 10, none⟩ (.int .i64 p.1)) 11 (.int .i64 p.2.1))).trans (Only.set ((w6.setCell ⟨w2.heap.size, 10, none⟩ (.int .i64 p.1)).setCell ⟨w2.heap.size, 11, none⟩ (.int .i64 p.2.1)) 12 (.int .i64 p.2.2))).trans (Only.set (((w6.setCell ⟨w2.heap.size, 10, none⟩ (.int .i64 p.1)).setCell ⟨w2.heap.size, 11, none⟩ (.int .i64 p.2.1)).setCell ⟨w2.heap.size, 12, none⟩ (.int .i64 p.2.2)) 13 (.int .i64 q.1))).trans (Only.set ((((w6.setCell ⟨w2.heap.size, 10, none⟩ (.int .i64 p.1)).setCell ⟨w2.heap.size, 11, none⟩ (.int .i64 p.2.1)).setCell ⟨w2.heap.size, 12, none⟩ (.int .i64 p.2.2)).setCell ⟨w2.heap.size, 13, none⟩ (.int .i64 q.1)) 14 (.int .i64 q.2.1))).trans (Only.set (((((w6.setCell ⟨w2.heap.size, 10, none⟩ (.int .i64 p.1)).setCell ⟨w2.heap.size, 11, none⟩ (.int .i64 p.2.1)).setCell ⟨w2.heap.size, 12, none⟩ (.int .i64 p.2.2)).setCell ⟨w2.heap.size, 13, none⟩ (.int .i64 q.1)).setCell ⟨w2.heap.size, 14, none⟩ (.int .i64 q.2.1)) 15 (.int .i64 q.2.2))).trans (Only.set ((((((w6.setCell ⟨w2.heap.size, 10, none⟩ (.int .i64 p.1)).setCell ⟨w2.heap.size, 11, none⟩ (.int .i64 p.2.1)).setCell ⟨w2.heap.size, 12, none⟩ (.int .i64 p.2.2)).setCell ⟨w2.heap.size, 13, none⟩ (.int .i64 q.1)).setCell ⟨w2.heap.size, 14, none⟩ (.int .i64 q.2.1)).setCell ⟨w2.heap.size, 15, none⟩ (.int .i64 q.2.2)) 16 (.string (bs t))))
    have hy : ((((((((opR0 3 nd).cells.toArray.setIfInBounds 10 (.int .i64 p.1)).setIfInBounds 11 (.int .i64 p.2.1)).setIfInBounds 12 (.int .i64 p.2.2)).setIfInBounds 13 (.int .i64 q.1)).setIfInBounds 14 (.int .i64 q.2.1)).setIfInBounds 15 (.int .i64 q.2.2)).setIfInBounds 16 (.string (bs t))) = (⟨{ opn0 (3, nd) with after := p, elem := q, text := t }, none, 0, none, 0⟩ : OpR).cells.toArray := by simp [OpR.cells, opR0, opn0]
    rw [hy] at h7
    have hR5 : Rdr (((((((w6.setCell ⟨w2.heap.size, 10, none⟩ (.int .i64 p.1)).setCell ⟨w2.heap.size, 11, none⟩ (.int .i64 p.2.1)).setCell ⟨w2.heap.size, 12, none⟩ (.int .i64 p.2.2)).setCell ⟨w2.heap.size, 13, none⟩ (.int .i64 q.1)).setCell ⟨w2.heap.size, 14, none⟩ (.int .i64 q.2.1)).setCell ⟨w2.heap.size, 15, none⟩ (.int .i64 q.2.2)).setCell ⟨w2.heap.size, 16, none⟩ (.string (bs t))) r s6 c6 := hset.box HRl.out (Ne.symm hrn1)
    have hB05 : (((((((w6.setCell ⟨w2.heap.size, 10, none⟩ (.int .i64 p.1)).setCell ⟨w2.heap.size, 11, none⟩ (.int .i64 p.2.1)).setCell ⟨w2.heap.size, 12, none⟩ (.int .i64 p.2.2)).setCell ⟨w2.heap.size, 13, none⟩ (.int .i64 q.1)).setCell ⟨w2.heap.size, 14, none⟩ (.int .i64 q.2.1)).setCell ⟨w2.heap.size, 15, none⟩ (.int .i64 q.2.2)).setCell ⟨w2.heap.size, 16, none⟩ (.string (bs t))).heap[w.heap.size]? = some (.cells noOp.toArray 44 (0, 0)) := hset.box HB0l.out (by omega)
    have hO5 : Only r w (((((((w6.setCell ⟨w2.heap.size, 10, none⟩ (.int .i64 p.1)).setCell ⟨w2.heap.size, 11, none⟩ (.int .i64 p.2.1)).setCell ⟨w2.heap.size, 12, none⟩ (.int .i64 p.2.2)).setCell ⟨w2.heap.size, 13, none⟩ (.int .i64 q.1)).setCell ⟨w2.heap.size, 14, none⟩ (.int .i64 q.2.1)).setCell ⟨w2.heap.size, 15, none⟩ (.int .i64 q.2.2)).setCell ⟨w2.heap.size, 16, none⟩ (.string (bs t))) := HOl.out.plus hset (Nat.le_of_lt hsz2)
    have hGD : (((((((w6.setCell ⟨w2.heap.size, 10, none⟩ (.int .i64 p.1)).setCell ⟨w2.heap.size, 11, none⟩ (.int .i64 p.2.1)).setCell ⟨w2.heap.size, 12, none⟩ (.int .i64 p.2.2)).setCell ⟨w2.heap.size, 13, none⟩ (.int .i64 q.1)).setCell ⟨w2.heap.size, 14, none⟩ (.int .i64 q.2.1)).setCell ⟨w2.heap.size, 15, none⟩ (.int .i64 q.2.2)).setCell ⟨w2.heap.size, 16, none⟩ (.string (bs t))).ownsRow w.heap.size 23 2 (.slice none 0 0) 0 [] := World.ownsRow_nil _ _ _ _
    have hGE : (((((((w6.setCell ⟨w2.heap.size, 10, none⟩ (.int .i64 p.1)).setCell ⟨w2.heap.size, 11, none⟩ (.int .i64 p.2.1)).setCell ⟨w2.heap.size, 12, none⟩ (.int .i64 p.2.2)).setCell ⟨w2.heap.size, 13, none⟩ (.int .i64 q.1)).setCell ⟨w2.heap.size, 14, none⟩ (.int .i64 q.2.1)).setCell ⟨w2.heap.size, 15, none⟩ (.int .i64 q.2.2)).setCell ⟨w2.heap.size, 16, none⟩ (.string (bs t))).ownsRow w.heap.size 40 3 (.slice none 0 0) 0 [] := World.ownsRow_nil _ _ _ _
    obtain ⟨W5, hW5⟩ : ∃ W5, (((((((w6.setCell ⟨w2.heap.size, 10, none⟩ (.int .i64 p.1)).setCell ⟨w2.heap.size, 11, none⟩ (.int .i64 p.2.1)).setCell ⟨w2.heap.size, 12, none⟩ (.int .i64 p.2.2)).setCell ⟨w2.heap.size, 13, none⟩ (.int .i64 q.1)).setCell ⟨w2.heap.size, 14, none⟩ (.int .i64 q.2.1)).setCell ⟨w2.heap.size, 15, none⟩ (.int .i64 q.2.2)).setCell ⟨w2.heap.size, 16, none⟩ (.string (bs t))) = W5 := ⟨_, rfl⟩
    rw [hW5] at h7 hR5 hB05 hO5 hGD hGE
    have HG5 : Hid (OpGood W5 w.heap.size ⟨{ opn0 (3, nd) with after := p, elem := q, text := t }, none, 0, none, 0⟩) := ⟨hGD, hGE, HK1.out, HN2.out, none3_D, HD4.out, HD5.out, (by intro s hs; cases hs), (by intro s hs; cases hs), by simp [opn0], Nat.le_trans HD6.out HZ5.out, by simp [opn0], by simp [opn0]⟩
    have HR5 := Lib.hid hR5
    have HB05 := Lib.hid hB05
    have HO5 := Lib.hid hO5
    have HY := Lib.hid h7
    have HP5 : Hid (RP pOpX s bad (⟨{ opn0 (3, nd) with after := p, elem := q, text := t }, none, 0, none, 0⟩ : OpR).o s6 c6) := by
      show RP _ _ _ _ _ _
      exact HP2.out.bind (q := qOpX) (by
        show RP (qOpX (3, nd)) _ _ _ _ _
        unfold qOpX
        rw [if_neg (show ¬ ((3 : Int) = 0) by decide), if_neg (show ¬ ((3 : Int) = 1) by decide), if_neg (show ¬ ((3 : Int) = 2) by decide), if_pos rfl]
        exact (HPX4.out.pair (HPX5.out.pair HPX6.out)).map _)
    clear h1 h2 h3 h4 h5 h6 h7 hset hy hR5 hB05 hO5 hGD hGE
    obtain ⟨yy, hyy⟩ : ∃ yy : OpR, ⟨{ opn0 (3, nd) with after := p, elem := q, text := t }, none, 0, none, 0⟩ = yy := ⟨_, rfl⟩
    rw [hyy] at HG5 HY HP5
    have HRA := Lib.hid (range_block HY.out)
    have hth := there_block HB05.out
    rw [noop_size yy] at hth
    have HTH := Lib.hid hth
    clear hth
    clear hyy
    have hend := rop_end HB05.out HR5.out HG5.out HP5.out HO5.out hrne
    have hrg := World.rangeAt_setCells_same W5 w.heap.size 0 yy.cells HTH.out
    obtain ⟨W6, hW6⟩ : ∃ W6, W5.setCells w.heap.size 0 yy.cells = W6 := ⟨_, rfl⟩
    rw [show yy.cells.toArray.toList = yy.cells from rfl, hW6] at hend
    rw [hW6] at hrg
    have HEND := Lib.hid hend
    have HRG := Lib.hid hrg
    have HW6 := Lib.hid hW6
    clear hend hrg hW6
    clear HP1 HP2 HRl HB1l HB0l HOl HRX4 HPX4 HB1X4 HB0X4 HOX4 HRX5 HPX5 HB1X5 HB0X5 HOX5 HRX6 HPX6 HB1X6 HB0X6 HOX6
    go_upto_region 14 with fail
    go_wp2_with (first | (refine wpList_load_mid rfl 44 (.tmp 3) rfl w2.heap.size 0 rfl yy.cells _ HRA.out Try.underlying44 rfl (zero_of_info info_op).2 ?_) | (refine st_row rfl (.tmp 2) (.tmp 52) rfl w.heap.size yy rfl rfl HB05.out ?_; rw [HW6.out]; clear HRA HTH HY HB05 HG5 HP5 HR5 HO5))
    exact bodyPost_ret (results_row rfl _ _ _ w.heap.size 0 yy.cells _ rfl HRG.out Try.underlying44 rfl (zero_of_info info_op).2) rfl HEND.out
  have k3 := hk
  clear hk
  by_cases hk : kd = 4
  · skip
    subst hk
    go_wp2_with (first | (refine wpList_store_fresh rfl 44 (.tmp 3) (.tmp 9) rfl _ (opR0 4 nd).cells.toArray rfl rfl (zero_of_info info_op).2 rfl (cells_one _) ?_))
    refine (rids_any 2000 (by omega) r s2 b2 HZ2.out _ HR3.out).mono ?_
    rintro e w4 ⟨v4, l4, s4, c4, rfl, how4, hD4, hL4, hr4, hp4, ho4⟩
    obtain ⟨A4, cp4, hv4⟩ := own_form how4
    subst hv4
    have HRX4 := Lib.hid hr4
    have HPX4 := Lib.hid hp4
    have HB1X4 := Lib.hid (ho4.box HB3.out hrn1)
    have HB0X4 := Lib.hid (ho4.box HB03.out hrne)
    have HOX4 := Lib.hid (HO3.out.trans ho4)
    have HW4 := Lib.hid (own_mono how4 (show w.heap.size ≤ W3.heap.size by omega))
    have HD4 := Lib.hid hD4
    have HL4 := Lib.hid hL4
    clear hr4 hp4 ho4 how4 hD4 hL4 d0 hW3 hsz3
    have HRl := HRX4
    have HB1l := HB1X4
    have HB0l := HB0X4
    have HOl := HOX4
    obtain ⟨x0, x1, x2, x3, x4, x5, x6, x7, x8, x9, x10, x11, x12, x13, x14, x15, x16, x17⟩ := op_box (x := opR0 4 nd) HB1l.out
    clear x0 x1 x2 x3 x4 x5 x6 x7 x8 x9 x10 x11 x12 x13 x14 x15 x16
    have f17 := frozen_of_row w4 w2.heap.size 17 _ 44 HB1l.out
    have h1 := heap_setCell_same w4 w2.heap.size 17 _ 44 (.slice A4 l4.length cp4) HB1l.out
    have hset : Only w2.heap.size w4 (w4.setCell ⟨w2.heap.size, 17, none⟩ (.slice A4 l4.length cp4)) := ((Only.refl w2.heap.size w4).trans (Only.set w4 17 (.slice A4 l4.length cp4)))
    have hy : ((opR0 4 nd).cells.toArray.setIfInBounds 17 (.slice A4 l4.length cp4)) = (⟨{ opn0 (4, nd) with elems := l4 }, none, 0, A4, cp4⟩ : OpR).cells.toArray := by simp [OpR.cells, opR0, opn0]
    rw [hy] at h1
    have hR5 : Rdr (w4.setCell ⟨w2.heap.size, 17, none⟩ (.slice A4 l4.length cp4)) r s4 c4 := hset.box HRl.out (Ne.symm hrn1)
    have hB05 : (w4.setCell ⟨w2.heap.size, 17, none⟩ (.slice A4 l4.length cp4)).heap[w.heap.size]? = some (.cells noOp.toArray 44 (0, 0)) := hset.box HB0l.out (by omega)
    have hO5 : Only r w (w4.setCell ⟨w2.heap.size, 17, none⟩ (.slice A4 l4.length cp4)) := HOl.out.plus hset (Nat.le_of_lt hsz2)
    have hGD : (w4.setCell ⟨w2.heap.size, 17, none⟩ (.slice A4 l4.length cp4)).ownsRow w.heap.size 23 2 (.slice none 0 0) 0 [] := World.ownsRow_nil _ _ _ _
    have hGE : (w4.setCell ⟨w2.heap.size, 17, none⟩ (.slice A4 l4.length cp4)).ownsRow w.heap.size 40 3 (.slice A4 l4.length cp4) l4.length (l4.flatMap idC) := own_sets HW4.out hset HB1l.out (by decide)
    obtain ⟨W5, hW5⟩ : ∃ W5, (w4.setCell ⟨w2.heap.size, 17, none⟩ (.slice A4 l4.length cp4)) = W5 := ⟨_, rfl⟩
    rw [hW5] at h1 hR5 hB05 hO5 hGD hGE
    have HG5 : Hid (OpGood W5 w.heap.size ⟨{ opn0 (4, nd) with elems := l4 }, none, 0, A4, cp4⟩) := ⟨hGD, hGE, HK1.out, HN2.out, none3_D, none3_D, none3_D, (by intro s hs; cases hs), HD4.out, by simp [opn0], by simp [opn0], by simp [opn0], HL4.out⟩
    have HR5 := Lib.hid hR5
    have HB05 := Lib.hid hB05
    have HO5 := Lib.hid hO5
    have HY := Lib.hid h1
    have HP5 : Hid (RP pOpX s bad (⟨{ opn0 (4, nd) with elems := l4 }, none, 0, A4, cp4⟩ : OpR).o s4 c4) := by
      show RP _ _ _ _ _ _
      exact HP2.out.bind (q := qOpX) (by
        show RP (qOpX (4, nd)) _ _ _ _ _
        unfold qOpX
        rw [if_neg (show ¬ ((4 : Int) = 0) by decide), if_neg (show ¬ ((4 : Int) = 1) by decide), if_neg (show ¬ ((4 : Int) = 2) by decide), if_neg (show ¬ ((4 : Int) = 3) by decide), if_pos rfl]
        exact HPX4.out.map _)
    clear h1 hset hy hR5 hB05 hO5 hGD hGE
    obtain ⟨yy, hyy⟩ : ∃ yy : OpR, ⟨{ opn0 (4, nd) with elems := l4 }, none, 0, A4, cp4⟩ = yy := ⟨_, rfl⟩
    rw [hyy] at HG5 HY HP5
    have HRA := Lib.hid (range_block HY.out)
    have hth := there_block HB05.out
    rw [noop_size yy] at hth
    have HTH := Lib.hid hth
    clear hth
    clear hyy
    have hend := rop_end HB05.out HR5.out HG5.out HP5.out HO5.out hrne
    have hrg := World.rangeAt_setCells_same W5 w.heap.size 0 yy.cells HTH.out
    obtain ⟨W6, hW6⟩ : ∃ W6, W5.setCells w.heap.size 0 yy.cells = W6 := ⟨_, rfl⟩
    rw [show yy.cells.toArray.toList = yy.cells from rfl, hW6] at hend
    rw [hW6] at hrg
    have HEND := Lib.hid hend
    have HRG := Lib.hid hrg
    have HW6 := Lib.hid hW6
    clear hend hrg hW6
    clear HP1 HP2 HRl HB1l HB0l HOl HRX4 HPX4 HB1X4 HB0X4 HOX4 HW4 HD4 HL4
    go_upto_region 14 with fail
    go_wp2_with (first | (refine wpList_load_mid rfl 44 (.tmp 3) rfl w2.heap.size 0 rfl yy.cells _ HRA.out Try.underlying44 rfl (zero_of_info info_op).2 ?_) | (refine st_row rfl (.tmp 2) (.tmp 52) rfl w.heap.size yy rfl rfl HB05.out ?_; rw [HW6.out]; clear HRA HTH HY HB05 HG5 HP5 HR5 HO5))
    exact bodyPost_ret (results_row rfl _ _ _ w.heap.size 0 yy.cells _ rfl HRG.out Try.underlying44 rfl (zero_of_info info_op).2) rfl HEND.out
  have k4 := hk
  clear hk
  have g0 : (kd == (0 : Int)) = false := by rw [beq_eq_false_iff_ne]; exact k0
  have g1 : (kd == (1 : Int)) = false := by rw [beq_eq_false_iff_ne]; exact k1
  have g2 : (kd == (2 : Int)) = false := by rw [beq_eq_false_iff_ne]; exact k2
  have g3 : (kd == (3 : Int)) = false := by rw [beq_eq_false_iff_ne]; exact k3
  have g4 : (kd == (4 : Int)) = false := by rw [beq_eq_false_iff_ne]; exact k4
  have HG5 : Hid (OpGood W3 w.heap.size (opR0 kd nd)) := ⟨World.ownsRow_nil _ _ _ _, World.ownsRow_nil _ _ _ _, HK1.out, HN2.out, none3_D, none3_D, none3_D, (by intro s hs; cases hs), (by intro s hs; cases hs), by simp [opR0, opn0], by simp [opR0, opn0], by simp [opR0, opn0], by simp [opR0, opn0]⟩
  have HP5 : Hid (RP pOpX s bad (opR0 kd nd).o s2 b2) := by
    show RP _ _ _ _ _ _
    refine HP2.out.bind (q := qOpX) ?_
    unfold qOpX
    rw [if_neg k0, if_neg k1, if_neg k2, if_neg k3, if_neg k4]
    refine ⟨fun h => h, fun h => ⟨fun a0 r0 he => ?_, fun he => nomatch he⟩, Nat.le_refl _⟩
    injection he with he
    injection he with h1 h2
    exact ⟨h1, h2, h⟩
  have HR5 := HR3
  have HB05 := HB03
  have HO5 := HO3
  have HY := HB3
  clear k0 k1 k2 k3 k4
  have hne1 : w2.heap.size ≠ w.heap.size := by omega
  obtain ⟨yy, hyy⟩ : ∃ yy : OpR, opR0 kd nd = yy := ⟨_, rfl⟩
  have HYY := Lib.hid hyy
  rw [hyy] at HG5 HP5 HY
  have HRA := Lib.hid (range_block HY.out)
  have hth := there_block HB05.out
  rw [noop_size yy] at hth
  have HTH := Lib.hid hth
  have hend := rop_end HB05.out HR5.out HG5.out HP5.out HO5.out hrne
  have hrg := World.rangeAt_setCells_same W3 w.heap.size 0 yy.cells HTH.out
  obtain ⟨W6, hW6⟩ : ∃ W6, W3.setCells w.heap.size 0 yy.cells = W6 := ⟨_, rfl⟩
  rw [show yy.cells.toArray.toList = yy.cells from rfl, hW6] at hend
  rw [hW6] at hrg
  have HEND := Lib.hid hend
  have HRG := Lib.hid hrg
  have HW6 := Lib.hid hW6
  clear hend hrg hW6 hth hyy HP1 HP2 HR1 HO1 HR0 HB0 HO0 HB01 HO2 HB02 HZ2 HR3 HB03 HO3 HB3 HK1 HN2
  go_upto_region 14 with (refine wpList_store_fresh rfl 44 (.tmp 3) (.tmp 9) rfl _ (opR0 kd nd).cells.toArray rfl rfl (zero_of_info info_op).2 rfl (cells_one _) ?_)
  go_wp2_with (first | (refine wpList_load_mid rfl 44 (.tmp 3) rfl w2.heap.size 0 rfl yy.cells _ HRA.out Try.underlying44 rfl (zero_of_info info_op).2 ?_) | (refine st_row rfl (.tmp 2) (.tmp 52) rfl w.heap.size yy rfl rfl HB05.out ?_; rw [HW6.out]; clear HRA HTH HY HB05 HG5 HP5 HR5 HO5))
  exact bodyPost_ret (results_row rfl _ _ _ w.heap.size 0 yy.cells _ rfl HRG.out Try.underlying44 rfl (zero_of_info info_op).2) rfl HEND.out

end Go.Proofs.Ytphnimmhjnhajaa.W8

