/-
  Layer 5: texts of ids, by the program and by the document.
-/
import Derived.Test.YticiolhfoeenmaaDoorS5s
namespace Go.Proofs.YticiolhfoeenmaaDoor.S5
open Go.RowKit Go.PlainAid Go.Shelf M5
set_option linter.unusedVariables false

/-- Three boxed ids anywhere, and what is read of the variables, while calls are made. -/
def Trip (w : World) (b1 b2 b3 : Nat) (t r i t' r' i' t'' r'' i'' : Int) (a : World) : Prop :=
  Trio a b1 25 t r i ∧ Trio a b2 25 t' r' i' ∧ Trio a b3 25 t'' r'' i'' ∧ Env a ∧ Below w.heap.size w a
def Cells9 (b1 b2 b3 : Nat) (t r i t' r' i' t'' r'' i'' : Int) (a : World) : Prop :=
  a.cell? ⟨b1, 0, none⟩ = some (.int .i64 t) ∧ a.cell? ⟨b1, 1, none⟩ = some (.int .i64 r) ∧ a.cell? ⟨b1, 2, none⟩ = some (.int .i64 i) ∧ a.cell? ⟨b2, 0, none⟩ = some (.int .i64 t') ∧ a.cell? ⟨b2, 1, none⟩ = some (.int .i64 r') ∧ a.cell? ⟨b2, 2, none⟩ = some (.int .i64 i') ∧ a.cell? ⟨b3, 0, none⟩ = some (.int .i64 t'') ∧ a.cell? ⟨b3, 1, none⟩ = some (.int .i64 r'') ∧ a.cell? ⟨b3, 2, none⟩ = some (.int .i64 i'')
theorem Trip.nine {w : World} {b1 b2 b3 : Nat} {t r i t' r' i' t'' r'' i'' : Int} {a : World} (h : Trip w b1 b2 b3 t r i t' r' i' t'' r'' i'' a) : Cells9 b1 b2 b3 t r i t' r' i' t'' r'' i'' a :=
  ⟨h.1.cells.1, h.1.cells.2.1, h.1.cells.2.2, h.2.1.cells.1, h.2.1.cells.2.1, h.2.1.cells.2.2, h.2.2.1.cells.1, h.2.2.1.cells.2.1, h.2.2.1.cells.2.2⟩
theorem Trip.keep {w : World} {b1 b2 b3 : Nat} {t r i t' r' i' t'' r'' i'' : Int} {a : World} {a' : World} (h : Trip w b1 b2 b3 t r i t' r' i' t'' r'' i'' a) (hb : Below a.heap.size a a') : Trip w b1 b2 b3 t r i t' r' i' t'' r'' i'' a' :=
  ⟨h.1.keep hb, h.2.1.keep hb, h.2.2.1.keep hb, h.2.2.2.1.keep hb, chain h.2.2.2.2 hb⟩
theorem Trip.call {w : World} {b1 b2 b3 : Nat} {t r i t' r' i' t'' r'' i'' : Int} {a : World} {f : FuncId} {args : Array Value} {R : Ending} (hc : Calls Tryd.prog f args a fun e w' => e = R ∧ Below a.heap.size a w') (h : Trip w b1 b2 b3 t r i t' r' i' t'' r'' i'' a) :
    Calls Tryd.prog f args a fun e w' => e = R ∧ Cells9 b1 b2 b3 t r i t' r' i' t'' r'' i'' w' ∧ Trip w b1 b2 b3 t r i t' r' i' t'' r'' i'' w' :=
  hc.mono fun e w' ⟨he, hb⟩ => ⟨he, (h.keep hb).nine, h.keep hb⟩
theorem Trip.awake {w : World} {b1 b2 b3 : Nat} {t r i t' r' i' t'' r'' i'' : Int} {a : World} (h : Trip w b1 b2 b3 t r i t' r' i' t'' r'' i'' a) :
    Calls Tryd.prog 10 #[] a fun e w' => e = .returned (.bool true) ∧ Cells9 b1 b2 b3 t r i t' r' i' t'' r'' i'' w' ∧ Trip w b1 b2 b3 t r i t' r' i' t'' r'' i'' w' := Trip.call (awake_any a h.2.2.2.1) h
theorem Trip.text {w : World} {b1 b2 b3 : Nat} {t r i t' r' i' t'' r'' i'' : Int} {a : World} (h : Trip w b1 b2 b3 t r i t' r' i' t'' r'' i'' a) (x y z : Int) :
    Calls Tryd.prog 21 #[.agg #[.int .i64 x, .int .i64 y, .int .i64 z]] a fun e w' => e = .returned (.string (bs (textR x y z))) ∧ Cells9 b1 b2 b3 t r i t' r' i' t'' r'' i'' w' ∧ Trip w b1 b2 b3 t r i t' r' i' t'' r'' i'' w' := Trip.call (text_any x y z a h.2.2.2.1) h
theorem Trip.refText {w : World} {b1 b2 b3 : Nat} {t r i t' r' i' t'' r'' i'' : Int} {a : World} (h : Trip w b1 b2 b3 t r i t' r' i' t'' r'' i'' a) (x y z : Int) :
    Calls Tryd.prog 22 #[.agg #[.int .i64 x, .int .i64 y, .int .i64 z]] a fun e w' => e = .returned (.string (bs (textR x y z))) ∧ Cells9 b1 b2 b3 t r i t' r' i' t'' r'' i'' w' ∧ Trip w b1 b2 b3 t r i t' r' i' t'' r'' i'' w' := Trip.call (refText_any x y z a h.2.2.2.1) h

theorem parsed_lit (o : Option (Int × Int × Int)) : ∃ (a b c : Int) (ok : Bool), parsedV o = .tuple #[.agg #[.int .i64 a, .int .i64 b, .int .i64 c], .bool ok] := by
  cases o with
  | none => exact ⟨0, 0, 0, false, rfl⟩
  | some x => obtain ⟨a, b, c⟩ := x; exact ⟨a, b, c, true, rfl⟩
theorem parse_lit {s : List UInt8} {v : Value} (h : parsedV (parseR s) = v) {w : World} (he : Env w) (hz : s.length ≤ 140737488351232) :
    Calls Tryd.prog 19 #[.string (bs s)] w fun e w' => e = .returned v ∧ Below w.heap.size w w' := by
  have := parse_any s w he hz
  rw [h] at this
  exact this
theorem refParse_lit {s : List UInt8} {v : Value} (h : parsedV (parseR s) = v) {w : World} (hz : s.length ≤ 140737488351232) :
    Calls Tryd.prog 20 #[.string (bs s)] w fun e w' => e = .returned v ∧ Below w.heap.size w w' := by
  have := refParse_any s w hz
  rw [h] at this
  exact this

set_option maxRecDepth 100000 in
set_option maxHeartbeats 4000000 in
theorem lawTexts (w : World) (he : Env w) (t r i : Int) (s : ByteArray) (hz : s.size ≤ 140737488351232) :
    Calls Tryd.prog 4 #[.agg #[.int .i64 t, .int .i64 r, .int .i64 i], .string s] w fun e w' => e = .returned (.bool true) ∧ Below w.heap.size w w' := by
  obtain ⟨l, rfl⟩ : ∃ l, s = bs l := ⟨s.data.toList, (bs_of s).symm⟩
  rw [bs_size] at hz
  obtain ⟨a, b, c, ok, hp⟩ := parsed_lit (parseR l)
  have HP := Lib.hid hp
  have E0 := Lib.hid (he.keep (new1 w (.cells #[.int .i64 t, .int .i64 r, .int .i64 i] 25)))
  have B0 := Lib.hid (new1 w (.cells #[.int .i64 t, .int .i64 r, .int .i64 i] 25))
  have X0 : Hid (Trio (w.alloc (.cells #[.int .i64 t, .int .i64 r, .int .i64 i] 25)) w.heap.size 25 t r i) := heap_alloc_new w _
  clear hp he
  go_enter Tryd.func4, Tryd.ntmps4
  go_wp2_with fail
  refine (parse_lit HP.out E0.out hz).mono ?_
  rintro e w1 ⟨rfl, hb1⟩
  have n1 := new1 w1 (.cells #[.int .i64 a, .int .i64 b, .int .i64 c] 25)
  have E1 := Lib.hid ((E0.out.keep hb1).keep n1)
  have B1 := Lib.hid (chain (chain B0.out hb1) n1)
  have X1 := Lib.hid ((X0.out.keep hb1).keep n1)
  have Y1 : Hid (Trio (w1.alloc (.cells #[.int .i64 a, .int .i64 b, .int .i64 c] 25)) w1.heap.size 25 a b c) := heap_alloc_new w1 _
  clear hb1 n1 E0 B0 X0
  go_wp2_with fail
  refine (refParse_lit HP.out hz).mono ?_
  rintro e w2 ⟨rfl, hb2⟩
  have n2 := new1 w2 (.cells #[.int .i64 a, .int .i64 b, .int .i64 c] 25)
  have Z2 : Trio (w2.alloc (.cells #[.int .i64 a, .int .i64 b, .int .i64 c] 25)) w2.heap.size 25 a b c := heap_alloc_new w2 _
  have hk : Trip w w.heap.size w1.heap.size w2.heap.size t r i a b c a b c (w2.alloc (.cells #[.int .i64 a, .int .i64 b, .int .i64 c] 25)) :=
    ⟨(X1.out.keep hb2).keep n2, (Y1.out.keep hb2).keep n2, Z2, (E1.out.keep hb2).keep n2, chain (chain B1.out hb2) n2⟩
  obtain ⟨k0, k1, k2, k3, k4, k5, k6, k7, k8⟩ := hk.nine
  have hk2 := hk.keep ((Below.refl _ _).drew)
  clear hb2 n2 Z2 E1 B1 X1 Y1 hk
  go_wp2
  go_region_held3 (fun a' => a'.cell? ⟨w.heap.size, 0, none⟩ = some (.int .i64 t) ∧ a'.cell? ⟨w.heap.size, 1, none⟩ = some (.int .i64 r) ∧ a'.cell? ⟨w.heap.size, 2, none⟩ = some (.int .i64 i) ∧ a'.cell? ⟨w1.heap.size, 0, none⟩ = some (.int .i64 a) ∧ a'.cell? ⟨w1.heap.size, 1, none⟩ = some (.int .i64 b) ∧ a'.cell? ⟨w1.heap.size, 2, none⟩ = some (.int .i64 c) ∧ a'.cell? ⟨w2.heap.size, 0, none⟩ = some (.int .i64 a) ∧ a'.cell? ⟨w2.heap.size, 1, none⟩ = some (.int .i64 b) ∧ a'.cell? ⟨w2.heap.size, 2, none⟩ = some (.int .i64 c) ∧ Trip w w.heap.size w1.heap.size w2.heap.size t r i a b c a b c a')
    (first | go_keep)
    (first
      | (go_at_call 10; (with_reducible refine (Trip.awake (w := w) (b1 := w.heap.size) (b2 := w1.heap.size) (b3 := w2.heap.size) (t := t) (r := r) (i := i) (t' := a) (r' := b) (i' := c) (t'' := a) (r'' := b) (i'' := c) ?h1).mono ?_); (case h1 => (first | assumption | exact (‹_ ∧ _ ∧ _ ∧ _ ∧ _ ∧ _ ∧ _ ∧ _ ∧ _ ∧ Trip w w.heap.size w1.heap.size w2.heap.size t r i a b c a b c _›).2.2.2.2.2.2.2.2.2)); rintro e w3 ⟨rfl, ⟨k0, k1, k2, k3, k4, k5, k6, k7, k8⟩, k9⟩)
      | (go_at_call 21; (with_reducible refine (Trip.text (w := w) (b1 := w.heap.size) (b2 := w1.heap.size) (b3 := w2.heap.size) (t := t) (r := r) (i := i) (t' := a) (r' := b) (i' := c) (t'' := a) (r'' := b) (i'' := c) ?h1 _ _ _).mono ?_); (case h1 => (first | assumption | exact (‹_ ∧ _ ∧ _ ∧ _ ∧ _ ∧ _ ∧ _ ∧ _ ∧ _ ∧ Trip w w.heap.size w1.heap.size w2.heap.size t r i a b c a b c _›).2.2.2.2.2.2.2.2.2)); rintro e w4 ⟨rfl, ⟨k0, k1, k2, k3, k4, k5, k6, k7, k8⟩, k9⟩)
      | (go_at_call 22; (with_reducible refine (Trip.refText (w := w) (b1 := w.heap.size) (b2 := w1.heap.size) (b3 := w2.heap.size) (t := t) (r := r) (i := i) (t' := a) (r' := b) (i' := c) (t'' := a) (r'' := b) (i'' := c) ?h1 _ _ _).mono ?_); (case h1 => (first | assumption | exact (‹_ ∧ _ ∧ _ ∧ _ ∧ _ ∧ _ ∧ _ ∧ _ ∧ _ ∧ Trip w w.heap.size w1.heap.size w2.heap.size t r i a b c a b c _›).2.2.2.2.2.2.2.2.2)); rintro e w5 ⟨rfl, ⟨k0, k1, k2, k3, k4, k5, k6, k7, k8⟩, k9⟩))
  have hbf := k9.2.2.2.2
  clear k0 k1 k2 k3 k4 k5 k6 k7 k8 k9 hk2
  go_wp2
  go_ret
  exact ⟨rfl, hbf⟩

end Go.Proofs.YticiolhfoeenmaaDoor.S5
