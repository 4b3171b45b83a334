/-
  Layer 8, walks of the program: what is taken from the head of bytes.
-/
import Derived.Test.YtphnimmhjnhajaaKW10g
import Derived.Test.YtphnimmhjnhajaaKB
namespace Go.Proofs.Ytphnimmhjnhajaa.W8
open Go.RowKit Go.PlainAid M8 V1
set_option linter.unusedVariables false

/-- The reader at r: what is left, and whether something went wrong. -/
def Rdr (w : World) (r : Nat) (s : List UInt8) (bad : Bool) : Prop := w.heap[r]? = some (.cells #[.string (bs s), .bool bad] 56 (0, 0))
theorem Rdr.lt {w : World} {r : Nat} {s : List UInt8} {bad : Bool} (h : Rdr w r s bad) : r < w.heap.size := (Array.getElem?_eq_some_iff.1 h).1
theorem Rdr.cells {w : World} {r : Nat} {s : List UInt8} {bad : Bool} (h : Rdr w r s bad) : w.cell? ⟨r, 0, none⟩ = some (.string (bs s)) ∧ w.cell? ⟨r, 1, none⟩ = some (.bool bad) := ⟨by rw [cell_of_row w r 0 _ _ (0, 0) h]; rfl, by rw [cell_of_row w r 1 _ _ (0, 0) h]; rfl⟩
theorem Rdr.keep {w w' : World} {r : Nat} {s : List UInt8} {bad : Bool} (h : Rdr w r s bad) (hb : Below w.heap.size w w') : Rdr w' r s bad := (hb.block r h.lt).trans h
/-- All but the reader is as it was. -/
structure Only (r : Nat) (w w' : World) : Prop where
  os : w'.os = w.os
  tape : w'.tape = w.tape
  output : w'.output = w.output
  size : w.heap.size ≤ w'.heap.size
  kept : ∀ c, c ≠ r → c < w.heap.size → w'.heap[c]? = w.heap[c]?
theorem Only.refl (r : Nat) (w : World) : Only r w w := ⟨rfl, rfl, rfl, Nat.le_refl _, fun _ _ _ => rfl⟩
theorem Only.trans {r : Nat} {w w1 w2 : World} (h : Only r w w1) (k : Only r w1 w2) : Only r w w2 := ⟨k.os.trans h.os, k.tape.trans h.tape, k.output.trans h.output, Nat.le_trans h.size k.size, fun c h1 h2 => (k.kept c h1 (Nat.lt_of_lt_of_le h2 h.size)).trans (h.kept c h1 h2)⟩
theorem Only.of {r : Nat} {w w' : World} (h : Below w.heap.size w w') : Only r w w' := ⟨h.os, h.tape, h.output, h.size, fun c _ hc => h.block c hc⟩
theorem Only.alloc {r : Nat} {w w1 : World} (h : Only r w w1) (o : Obj) : Only r w (w1.alloc o) := h.trans (Only.of (below_box o))
theorem Only.set {r : Nat} (w : World) (k : Nat) (v : Value) : Only r w (w.setCell ⟨r, k, none⟩ v) := ⟨rfl, rfl, rfl, by simp [World.setCell], fun c hc _ => heap_setCell_other w ⟨r, k, none⟩ c v hc⟩
theorem Only.below {r : Nat} {w w' : World} (h : Only r w w') (hr : w.heap.size ≤ r) : Below w.heap.size w w' := ⟨h.os, h.tape, h.output, h.size, fun c hc => h.kept c (by omega) hc⟩
theorem Only.low {r : Nat} {w w' : World} (h : Only r w w') (hr : r < w.heap.size) : Below r w w' := ⟨h.os, h.tape, h.output, h.size, fun c hc => h.kept c (by omega) (by omega)⟩
theorem Only.box {r : Nat} {w w' : World} (h : Only r w w') {c : Nat} {o : Obj} (hc : w.heap[c]? = some o) (hcr : c ≠ r) : w'.heap[c]? = some o := (h.kept c hcr (Array.getElem?_eq_some_iff.1 hc).1).trans hc
/-- What is taken by a parser p, or that something went wrong. -/
def RP {α : Type} (p : P α) (s : Bytes) (bad : Bool) (a : α) (s' : Bytes) (bad' : Bool) : Prop :=
  (bad = true → bad' = true) ∧ (bad = false → (∀ a0 r0, p s = some (a0, r0) → a = a0 ∧ s' = r0 ∧ bad' = false) ∧ (p s = none → bad' = true)) ∧ s'.length ≤ s.length
theorem RP.bind {α β : Type} {p : P α} {q : α → P β} {s s1 s2 : Bytes} {b b1 b2 : Bool} {a : α} {c : β} (h : RP p s b a s1 b1) (k : RP (q a) s1 b1 c s2 b2) : RP (pBind p q) s b c s2 b2 := by
  refine ⟨fun hb => k.1 (h.1 hb), fun hb => ⟨fun a0 r0 hp => ?_, fun hp => ?_⟩, Nat.le_trans k.2.2 h.2.2⟩
  · obtain ⟨x, t, h1, h2⟩ := pBind_inv hp
    obtain ⟨rfl, rfl, h3⟩ := (h.2.1 hb).1 x t h1
    exact (k.2.1 h3).1 a0 r0 h2
  · cases hq : p s with
    | none => exact k.1 ((h.2.1 hb).2 hq)
    | some x =>
      obtain ⟨a0, r0⟩ := x
      obtain ⟨rfl, rfl, h3⟩ := (h.2.1 hb).1 a0 r0 hq
      refine (k.2.1 h3).2 ?_
      unfold pBind at hp
      rw [hq] at hp
      exact hp
theorem RP.map {α β : Type} {p : P α} (f : α → β) {s s1 : Bytes} {b b1 : Bool} {a : α} (h : RP p s b a s1 b1) : RP (pMap f p) s b (f a) s1 b1 := by
  refine ⟨h.1, fun hb => ⟨fun a0 r0 hp => ?_, fun hp => ?_⟩, h.2.2⟩
  · unfold pMap at hp
    cases hq : p s with
    | none => rw [hq] at hp; cases hp
    | some x =>
      obtain ⟨a1, r1⟩ := x
      rw [hq] at hp
      injection hp with hp
      injection hp with h1 h2
      obtain ⟨rfl, rfl, h3⟩ := (h.2.1 hb).1 a1 r1 hq
      exact ⟨h1, h2, h3⟩
  · refine (h.2.1 hb).2 ?_
    unfold pMap at hp
    cases hq : p s with
    | none => rfl
    | some x => rw [hq] at hp; cases hp
theorem RP.pair {α β : Type} {p : P α} {q : P β} {s s1 s2 : Bytes} {b b1 b2 : Bool} {a : α} {c : β} (h : RP p s b a s1 b1) (k : RP q s1 b1 c s2 b2) : RP (pPair p q) s b (a, c) s2 b2 := by
  unfold pPair
  exact h.bind (q := fun a => pMap (fun b => (a, b)) q) (k.map (fun b => (a, b)))
theorem RP.of {α : Type} {p : P α} {s s' : Bytes} {b : Bool} {a : α} {er : Int} (h1 : er = 0 → p s = some (a, s')) (h2 : er ≠ 0 → p s = none) (hl : s'.length ≤ s.length) : RP p s b a s' (b || !(er == 0)) := by
  refine ⟨fun hb => by rw [hb]; rfl, fun hb => ⟨fun a0 r0 hp => ?_, fun hp => ?_⟩, hl⟩
  · by_cases he : er = 0
    · rw [h1 he] at hp
      injection hp with hp
      injection hp with h3 h4
      exact ⟨h3, h4, by rw [hb, he]; rfl⟩
    · rw [h2 he] at hp; cases hp
  · by_cases he : er = 0
    · rw [h1 he] at hp; cases hp
    · rw [hb]; simpa using he

set_option maxRecDepth 100000 in
set_option maxHeartbeats 2000000 in
theorem hold_any (r : Nat) (s : List UInt8) (bad ok : Bool) (w : World) (hr : Rdr w r s bad) : Calls Try.prog 48 #[.pointer (some ⟨r, 0, none⟩), .bool ok] w fun e w' => e = .returned (.tuple #[]) ∧ Rdr w' r s (bad || !ok) ∧ Only r w w' := by
  obtain ⟨c0, c1⟩ := hr.cells
  have f1 := frozen_of_row w r 1 _ 56 hr
  have hs := fun (v : Bool) => heap_setCell_same w r 1 _ 56 (.bool v) hr
  have HS := Lib.hid hs
  clear hr hs c0
  cases bad <;> cases ok
  all_goals go_enter Try.func48, Try.ntmps48
  all_goals go_wp2
  all_goals refine bodyPost_end (results_none rfl _ _ _) rfl ?_
  all_goals exact ⟨rfl, HS.out _, Only.set w 1 _⟩

set_option maxRecDepth 100000 in
set_option maxHeartbeats 4000000 in
theorem takeNat_any (r : Nat) (s : List UInt8) (bad : Bool) (hz : s.length ≤ 1000000) (w : World) (hr : Rdr w r s bad) : Calls Try.prog 44 #[.pointer (some ⟨r, 0, none⟩), .func (.func 45) #[] #[]] w fun e w' => e = .returned (.int .i64 ((take s).1 : Int)) ∧ Rdr w' r (take s).2.1 (bad || !((take s).2.2 == 0)) ∧ Only r w w' := by
  have HR := Lib.hid hr
  obtain ⟨c0, c1⟩ := hr.cells
  have hC := V1.take_any (bs s) (by rw [bs_size]; omega) w
  rw [show (bs s).data.toList = s from rfl] at hC
  obtain ⟨rs, hrs⟩ : ∃ rs, (take s).2.1 = rs := ⟨_, rfl⟩
  obtain ⟨er, her⟩ : ∃ er, (take s).2.2 = er := ⟨_, rfl⟩
  rw [hrs, her] at hC ⊢
  obtain ⟨x, hx⟩ : ∃ x, ((take s).1 : Int) = x := ⟨_, rfl⟩
  rw [hx] at hC ⊢
  clear hx
  obtain ⟨ok, hok⟩ : ∃ ok, (er == 0) = ok := ⟨_, rfl⟩
  rw [hok]
  have HC := Lib.hid hC
  clear hr c1 hC hrs her
  go_enter Try.func44, Try.ntmps44
  go_wp2_with fail
  refine HC.out.mono ?_
  rintro e w1 ⟨rfl, hb1⟩
  have hr1 := HR.out.keep hb1
  have HO1 := Lib.hid (Only.of (r := r) hb1)
  have f0 := frozen_of_row w1 r 0 _ 56 hr1
  have hr2 : Rdr (w1.setCell ⟨r, 0, none⟩ (.string (bs rs))) r rs bad := heap_setCell_same w1 r 0 _ 56 (.string (bs rs)) hr1
  have HR2 := Lib.hid hr2
  have HO2 := Lib.hid (HO1.out.trans (Only.set w1 0 (.string (bs rs))))
  obtain ⟨e0, e1⟩ := hr1.cells
  clear hr1 hr2 hb1 c0 e1
  go_wp2_with fail
  refine (hold_any r rs bad ok _ HR2.out).mono ?_
  rintro e w2 ⟨rfl, hr3, ho3⟩
  have HR3 := Lib.hid hr3
  have HO3 := Lib.hid (HO2.out.trans ho3)
  clear hr3 ho3 hok e0 f0
  go_wp2
  go_ret
  exact ⟨rfl, HR3.out, HO3.out⟩

set_option maxRecDepth 100000 in
set_option maxHeartbeats 4000000 in
theorem takeText_any (r : Nat) (s : List UInt8) (bad : Bool) (hz : s.length ≤ 1000000) (w : World) (hr : Rdr w r s bad) : Calls Try.prog 65 #[.pointer (some ⟨r, 0, none⟩), .func (.func 66) #[] #[]] w fun e w' => e = .returned (.string (bs (takeBytes s).1)) ∧ Rdr w' r (takeBytes s).2.1 (bad || !((takeBytes s).2.2 == 0)) ∧ Only r w w' := by
  have HR := Lib.hid hr
  obtain ⟨c0, c1⟩ := hr.cells
  have hC := V1.takeBytes_any (bs s) (by rw [bs_size]; omega) w
  rw [show (bs s).data.toList = s from rfl] at hC
  obtain ⟨rs, hrs⟩ : ∃ rs, (takeBytes s).2.1 = rs := ⟨_, rfl⟩
  obtain ⟨er, her⟩ : ∃ er, (takeBytes s).2.2 = er := ⟨_, rfl⟩
  rw [hrs, her] at hC ⊢
  obtain ⟨x, hx⟩ : ∃ x, (takeBytes s).1 = x := ⟨_, rfl⟩
  rw [hx] at hC ⊢
  clear hx
  obtain ⟨ok, hok⟩ : ∃ ok, (er == 0) = ok := ⟨_, rfl⟩
  rw [hok]
  have HC := Lib.hid hC
  clear hr c1 hC hrs her
  go_enter Try.func65, Try.ntmps65
  go_wp2_with fail
  refine HC.out.mono ?_
  rintro e w1 ⟨rfl, hb1⟩
  have hr1 := HR.out.keep hb1
  have HO1 := Lib.hid (Only.of (r := r) hb1)
  have f0 := frozen_of_row w1 r 0 _ 56 hr1
  have hr2 : Rdr (w1.setCell ⟨r, 0, none⟩ (.string (bs rs))) r rs bad := heap_setCell_same w1 r 0 _ 56 (.string (bs rs)) hr1
  have HR2 := Lib.hid hr2
  have HO2 := Lib.hid (HO1.out.trans (Only.set w1 0 (.string (bs rs))))
  obtain ⟨e0, e1⟩ := hr1.cells
  clear hr1 hr2 hb1 c0 e1
  go_wp2_with fail
  refine (hold_any r rs bad ok _ HR2.out).mono ?_
  rintro e w2 ⟨rfl, hr3, ho3⟩
  have HR3 := Lib.hid hr3
  have HO3 := Lib.hid (HO2.out.trans ho3)
  clear hr3 ho3 hok e0 f0
  go_wp2
  go_ret
  exact ⟨rfl, HR3.out, HO3.out⟩

end Go.Proofs.Ytphnimmhjnhajaa.W8

