/-
  Layer 5, walks: the texts of ids.
-/
import Derived.Test.YthecofkkacieaaaDoorS5k
namespace Go.Proofs.YthecofkkacieaaaDoor.S5
open Go.RowKit Go.PlainAid Go.Shelf M5
set_option linter.unusedVariables false

/-- What stays while a text is made: the boxed id, what is read of the variables. -/
def Held (w : World) (b : Nat) (t r i : Int) (w' : World) : Prop :=
  w'.cell? ⟨b, 0, none⟩ = some (.int .i64 t) ∧ w'.cell? ⟨b, 1, none⟩ = some (.int .i64 r) ∧ w'.cell? ⟨b, 2, none⟩ = some (.int .i64 i) ∧ Env w' ∧ Below w.heap.size w w' ∧ b < w'.heap.size
theorem Held.keep {w : World} {b : Nat} {t r i : Int} {a a' : World} (h : Held w b t r i a) (hb : Below a.heap.size a a') : Held w b t r i a' := by
  obtain ⟨h0, h1, h2, h3, h4, h5⟩ := h
  exact ⟨bcell hb h5 h0, bcell hb h5 h1, bcell hb h5 h2, h3.keep hb, chain h4 hb, Nat.lt_of_lt_of_le h5 hb.size⟩
theorem Held.drew {w : World} {b : Nat} {t r i : Int} {a : World} (h : Held w b t r i a) : Held w b t r i a.drew := h.keep ((Below.refl _ _).drew)
theorem itoa_in {w : World} {b : Nat} {t r i : Int} {a : World} (h : Held w b t r i a) (n : Int) (h0 : 0 ≤ n) (h1 : n ≤ 9223372036854775807) :
    Calls Tryd.prog 32 #[.int .i64 n] a fun e w' => e = .returned (.string (bs (Lib.decDigits n.toNat))) ∧ (w'.cell? ⟨b, 0, none⟩ = some (.int .i64 t) ∧ w'.cell? ⟨b, 1, none⟩ = some (.int .i64 r) ∧ w'.cell? ⟨b, 2, none⟩ = some (.int .i64 i) ∧ Held w b t r i w') :=
  (itoa_any n h0 h1 a h.2.2.2.1).mono fun e w' ⟨he, hb⟩ => by
    have hk := h.keep hb
    exact ⟨he, hk.1, hk.2.1, hk.2.2.1, hk⟩
theorem digits_in {w : World} {b : Nat} {t r i : Int} {a : World} (h : Held w b t r i a) (n : Int) (h0 : 0 ≤ n) (h1 : n ≤ 9223372036854775807) :
    Calls Tryd.prog 33 #[.int .i64 n] a fun e w' => e = .returned (.string (bs (Lib.decDigits n.toNat))) ∧ (w'.cell? ⟨b, 0, none⟩ = some (.int .i64 t) ∧ w'.cell? ⟨b, 1, none⟩ = some (.int .i64 r) ∧ w'.cell? ⟨b, 2, none⟩ = some (.int .i64 i) ∧ Held w b t r i w') := by
  have hd := digits_any n.toNat (by omega) a
  rw [show ((n.toNat : Nat) : Int) = n by omega] at hd
  refine hd.mono fun e w' ⟨he, hb⟩ => ?_
  have hk := h.keep hb
  exact ⟨he, hk.1, hk.2.1, hk.2.2.1, hk⟩

theorem add_run {P : Program} {a b : List UInt8} (h : a.length + b.length ≤ 1000) (w : World) : (Op.stringOp .add (bs a) (bs b)).run P w = .ok (.string (bs (a ++ b))) w := by
  rw [run_string_add_sum (P := P) (w := w) (a := bs a) (b := bs b) (by rw [bs_size, bs_size]; omega), bs_join]
theorem dec_short {n : Int} (h : n ≤ 1099511627776) : (Lib.decDigits n.toNat).length ≤ 20 := by
  have := dec_len (u := n.toNat) (k := 13) (by omega) (by omega)
  omega
/-- What a call for one number of an id's text gives. -/
def NumText (f : FuncId) (w : World) (b : Nat) (t r i n : Int) (d : List UInt8) : Prop := ∀ a, Held w b t r i a → Calls Tryd.prog f #[.int .i64 n] a fun e w' => e = .returned (.string (bs d)) ∧ (w'.cell? ⟨b, 0, none⟩ = some (.int .i64 t) ∧ w'.cell? ⟨b, 1, none⟩ = some (.int .i64 r) ∧ w'.cell? ⟨b, 2, none⟩ = some (.int .i64 i) ∧ Held w b t r i w')

theorem NumText.go {f : FuncId} {w : World} {b : Nat} {t r i n : Int} {d : List UInt8} (h : NumText f w b t r i n d) {a : World} (hh : Held w b t r i a) : Calls Tryd.prog f #[.int .i64 n] a fun e w' => e = .returned (.string (bs d)) ∧ (w'.cell? ⟨b, 0, none⟩ = some (.int .i64 t) ∧ w'.cell? ⟨b, 1, none⟩ = some (.int .i64 r) ∧ w'.cell? ⟨b, 2, none⟩ = some (.int .i64 i) ∧ Held w b t r i w') := h a hh

set_option maxRecDepth 100000 in
set_option maxHeartbeats 2000000 in
theorem text_right (t r i : Int) (w : World) (he : Env w) (hr : rightId t r i = true) :
    Calls Tryd.prog 21 #[.agg #[.int .i64 t, .int .i64 r, .int .i64 i]] w fun e w' => e = .returned (.string (bs (idText t.toNat r.toNat i.toNat))) ∧ Below w.heap.size w w' := by
  have hb := rightId_iff.1 hr
  have HT : Hid (Lib.decDigits t.toNat ++ [46] ++ Lib.decDigits r.toNat ++ [46] ++ Lib.decDigits i.toNat = idText t.toNat r.toNat i.toNat) := by show _ = _; unfold idText; simp
  have s1 := dec_short (n := t) (by omega)
  have s2 := dec_short (n := r) (by omega)
  have s3 := dec_short (n := i) (by omega)
  have I1 : Hid (NumText 32 w w.heap.size t r i t (Lib.decDigits t.toNat)) := fun a h => itoa_in h t (by omega) (by omega)
  have I2 : Hid (NumText 32 w w.heap.size t r i r (Lib.decDigits r.toNat)) := fun a h => itoa_in h r (by omega) (by omega)
  have I3 : Hid (NumText 32 w w.heap.size t r i i (Lib.decDigits i.toNat)) := fun a h => itoa_in h i (by omega) (by omega)
  generalize Lib.decDigits t.toNat = d1 at *
  generalize Lib.decDigits r.toNat = d2 at *
  generalize Lib.decDigits i.toNat = d3 at *
  have a1 : ∀ w, (Op.stringOp .add (bs d1) ⟨#[46]⟩).run Tryd.prog w = .ok (.string (bs (d1 ++ [46]))) w := add_run (P := Tryd.prog) (a := d1) (b := [46]) (by simp; omega)
  have a2 := add_run (P := Tryd.prog) (a := d1 ++ [46]) (b := d2) (by simp; omega)
  have a3 : ∀ w, (Op.stringOp .add (bs (d1 ++ [46] ++ d2)) ⟨#[46]⟩).run Tryd.prog w = .ok (.string (bs (d1 ++ [46] ++ d2 ++ [46]))) w := add_run (P := Tryd.prog) (a := d1 ++ [46] ++ d2) (b := [46]) (by simp; omega)
  have a4 := add_run (P := Tryd.prog) (a := d1 ++ [46] ++ d2 ++ [46]) (b := d3) (by simp; omega)
  have HE := Lib.hid he
  have HR := Lib.hid hr
  generalize d1 ++ [46] = e1 at *
  generalize e1 ++ d2 = e2 at *
  generalize e2 ++ [46] = e3 at *
  generalize e3 ++ d3 = e4 at *
  clear he hr hb s1 s2 s3
  go_enter Tryd.func21, Tryd.ntmps21
  go_wp2_with fail
  refine (rightId_any _ _ _ _).mono ?_
  rintro e w1 ⟨rfl, hb1⟩
  rw [HR.out]
  have q0 : w1.cell? ⟨w.heap.size, 0, none⟩ = some (.int .i64 t) := bcell hb1 (by simp) (by simp)
  have q1 : w1.cell? ⟨w.heap.size, 1, none⟩ = some (.int .i64 r) := bcell hb1 (by simp) (by simp)
  have q2 : w1.cell? ⟨w.heap.size, 2, none⟩ = some (.int .i64 i) := bcell hb1 (by simp) (by simp)
  have hb := chain (new1 w _) hb1
  have hk : Held w w.heap.size t r i w1 := ⟨q0, q1, q2, HE.out.keep hb, hb, by have := hb1.size; simp at this; omega⟩
  have hk2 : Held w w.heap.size t r i w1.drew := hk.drew
  clear hb1 hb hk
  go_wp2
  go_region_held3 (fun w' => w'.cell? ⟨w.heap.size, 0, none⟩ = some (.int .i64 t) ∧ w'.cell? ⟨w.heap.size, 1, none⟩ = some (.int .i64 r) ∧ w'.cell? ⟨w.heap.size, 2, none⟩ = some (.int .i64 i) ∧ Held w w.heap.size t r i w')
    (first | go_keep)
    (first
      | (go_at_call 32; (with_reducible refine (NumText.go I1.out ?h1).mono ?_); (case h1 => first | assumption | exact (‹_ ∧ _ ∧ _ ∧ Held w w.heap.size t r i _›).2.2.2); rintro e w2 ⟨rfl, k0, k1, k2, k3⟩)
      | (go_at_call 32; (with_reducible refine (NumText.go I2.out ?h1).mono ?_); (case h1 => first | assumption | exact (‹_ ∧ _ ∧ _ ∧ Held w w.heap.size t r i _›).2.2.2); rintro e w3 ⟨rfl, k4, k5, k6, k7⟩)
      | (go_at_call 32; (with_reducible refine (NumText.go I3.out ?h1).mono ?_); (case h1 => first | assumption | exact (‹_ ∧ _ ∧ _ ∧ Held w w.heap.size t r i _›).2.2.2); rintro e w4 ⟨rfl, k8, k9, k10, k11⟩))
  have hbf := k11.2.2.2.2.1
  clear k0 k1 k2 k3 k4 k5 k6 k7 k8 k9 k10 k11 q0 q1 q2 hk2
  go_wp2
  go_ret
  exact ⟨by rw [← HT.out]; rfl, hbf⟩

set_option maxRecDepth 100000 in
set_option maxHeartbeats 400000 in
theorem text_wrong (t r i : Int) (w : World) (hr : rightId t r i = false) :
    Calls Tryd.prog 21 #[.agg #[.int .i64 t, .int .i64 r, .int .i64 i]] w fun e w' => e = .returned (.string (bs [])) ∧ Below w.heap.size w w' := by
  have HR := Lib.hid hr
  clear hr
  go_enter Tryd.func21, Tryd.ntmps21
  go_wp2_with fail
  refine (rightId_any _ _ _ _).mono ?_
  rintro e w1 ⟨rfl, hb1⟩
  rw [HR.out]
  have hb := chain (new1 w _) hb1
  clear hb1
  go_wp2
  go_ret
  exact ⟨rfl, hb⟩
theorem text_any (t r i : Int) (w : World) (he : Env w) :
    Calls Tryd.prog 21 #[.agg #[.int .i64 t, .int .i64 r, .int .i64 i]] w fun e w' => e = .returned (.string (bs (textR t r i))) ∧ Below w.heap.size w w' := by
  cases hr : rightId t r i with
  | true => rw [textR_right hr]; exact text_right t r i w he hr
  | false => rw [textR_wrong hr]; exact text_wrong t r i w hr

set_option maxRecDepth 100000 in
set_option maxHeartbeats 2000000 in
theorem refText_right (t r i : Int) (w : World) (he : Env w) (hr : rightId t r i = true) :
    Calls Tryd.prog 22 #[.agg #[.int .i64 t, .int .i64 r, .int .i64 i]] w fun e w' => e = .returned (.string (bs (idText t.toNat r.toNat i.toNat))) ∧ Below w.heap.size w w' := by
  have hb := rightId_iff.1 hr
  have HT : Hid (Lib.decDigits t.toNat ++ [46] ++ Lib.decDigits r.toNat ++ [46] ++ Lib.decDigits i.toNat = idText t.toNat r.toNat i.toNat) := by show _ = _; unfold idText; simp
  have s1 := dec_short (n := t) (by omega)
  have s2 := dec_short (n := r) (by omega)
  have s3 := dec_short (n := i) (by omega)
  have I1 : Hid (NumText 33 w w.heap.size t r i t (Lib.decDigits t.toNat)) := fun a h => digits_in h t (by omega) (by omega)
  have I2 : Hid (NumText 33 w w.heap.size t r i r (Lib.decDigits r.toNat)) := fun a h => digits_in h r (by omega) (by omega)
  have I3 : Hid (NumText 33 w w.heap.size t r i i (Lib.decDigits i.toNat)) := fun a h => digits_in h i (by omega) (by omega)
  generalize Lib.decDigits t.toNat = d1 at *
  generalize Lib.decDigits r.toNat = d2 at *
  generalize Lib.decDigits i.toNat = d3 at *
  have a1 : ∀ w, (Op.stringOp .add (bs d1) ⟨#[46]⟩).run Tryd.prog w = .ok (.string (bs (d1 ++ [46]))) w := add_run (P := Tryd.prog) (a := d1) (b := [46]) (by simp; omega)
  have a2 := add_run (P := Tryd.prog) (a := d1 ++ [46]) (b := d2) (by simp; omega)
  have a3 : ∀ w, (Op.stringOp .add (bs (d1 ++ [46] ++ d2)) ⟨#[46]⟩).run Tryd.prog w = .ok (.string (bs (d1 ++ [46] ++ d2 ++ [46]))) w := add_run (P := Tryd.prog) (a := d1 ++ [46] ++ d2) (b := [46]) (by simp; omega)
  have a4 := add_run (P := Tryd.prog) (a := d1 ++ [46] ++ d2 ++ [46]) (b := d3) (by simp; omega)
  have HE := Lib.hid he
  have HR := Lib.hid hr
  generalize d1 ++ [46] = e1 at *
  generalize e1 ++ d2 = e2 at *
  generalize e2 ++ [46] = e3 at *
  generalize e3 ++ d3 = e4 at *
  clear he hr hb s1 s2 s3
  go_enter Tryd.func22, Tryd.ntmps22
  go_wp2_with fail
  refine (refRightId_any _ _ _ _).mono ?_
  rintro e w1 ⟨rfl, hb1⟩
  rw [HR.out]
  have q0 : w1.cell? ⟨w.heap.size, 0, none⟩ = some (.int .i64 t) := bcell hb1 (by simp) (by simp)
  have q1 : w1.cell? ⟨w.heap.size, 1, none⟩ = some (.int .i64 r) := bcell hb1 (by simp) (by simp)
  have q2 : w1.cell? ⟨w.heap.size, 2, none⟩ = some (.int .i64 i) := bcell hb1 (by simp) (by simp)
  have hb := chain (new1 w _) hb1
  have hk : Held w w.heap.size t r i w1 := ⟨q0, q1, q2, HE.out.keep hb, hb, by have := hb1.size; simp at this; omega⟩
  have hk2 : Held w w.heap.size t r i w1.drew := hk.drew
  clear hb1 hb hk
  go_wp2
  go_region_held3 (fun w' => w'.cell? ⟨w.heap.size, 0, none⟩ = some (.int .i64 t) ∧ w'.cell? ⟨w.heap.size, 1, none⟩ = some (.int .i64 r) ∧ w'.cell? ⟨w.heap.size, 2, none⟩ = some (.int .i64 i) ∧ Held w w.heap.size t r i w')
    (first | go_keep)
    (first
      | (go_at_call 33; (with_reducible refine (NumText.go I1.out ?h1).mono ?_); (case h1 => first | assumption | exact (‹_ ∧ _ ∧ _ ∧ Held w w.heap.size t r i _›).2.2.2); rintro e w2 ⟨rfl, k0, k1, k2, k3⟩)
      | (go_at_call 33; (with_reducible refine (NumText.go I2.out ?h1).mono ?_); (case h1 => first | assumption | exact (‹_ ∧ _ ∧ _ ∧ Held w w.heap.size t r i _›).2.2.2); rintro e w3 ⟨rfl, k4, k5, k6, k7⟩)
      | (go_at_call 33; (with_reducible refine (NumText.go I3.out ?h1).mono ?_); (case h1 => first | assumption | exact (‹_ ∧ _ ∧ _ ∧ Held w w.heap.size t r i _›).2.2.2); rintro e w4 ⟨rfl, k8, k9, k10, k11⟩))
  have hbf := k11.2.2.2.2.1
  clear k0 k1 k2 k3 k4 k5 k6 k7 k8 k9 k10 k11 q0 q1 q2 hk2
  go_wp2
  go_ret
  exact ⟨by rw [← HT.out]; rfl, hbf⟩

set_option maxRecDepth 100000 in
set_option maxHeartbeats 400000 in
theorem refText_wrong (t r i : Int) (w : World) (hr : rightId t r i = false) :
    Calls Tryd.prog 22 #[.agg #[.int .i64 t, .int .i64 r, .int .i64 i]] w fun e w' => e = .returned (.string (bs [])) ∧ Below w.heap.size w w' := by
  have HR := Lib.hid hr
  clear hr
  go_enter Tryd.func22, Tryd.ntmps22
  go_wp2_with fail
  refine (refRightId_any _ _ _ _).mono ?_
  rintro e w1 ⟨rfl, hb1⟩
  rw [HR.out]
  have hb := chain (new1 w _) hb1
  clear hb1
  go_wp2
  go_ret
  exact ⟨rfl, hb⟩
theorem refText_any (t r i : Int) (w : World) (he : Env w) :
    Calls Tryd.prog 22 #[.agg #[.int .i64 t, .int .i64 r, .int .i64 i]] w fun e w' => e = .returned (.string (bs (textR t r i))) ∧ Below w.heap.size w w' := by
  cases hr : rightId t r i with
  | true => rw [textR_right hr]; exact refText_right t r i w he hr
  | false => rw [textR_wrong hr]; exact refText_wrong t r i w hr

end Go.Proofs.YthecofkkacieaaaDoor.S5
