/-
  Layer 7: a range over an iterator that keeps what is still to come in a cell of its own.
-/
import Derived.RangeFuncNested
import Derived.RangeFuncBound
import Derived.RangeFuncCalls
import Derived.RangeFuncLeaves
import Derived.Test.YthecofkkacieaaaDoorP7b
namespace Go.Proofs.YthecofkkacieaaaDoor.P7
open Go.RowKit
set_option linter.unusedVariables false

/-- The three boxes of the iterator lie as they lay. -/
structure Keep3 (b : Nat) (A A' : World) : Prop where
  size : A.heap.size ≤ A'.heap.size
  same : ∀ k, b ≤ k → k < b + 3 → A'.heap[k]? = A.heap[k]?
theorem Keep3.refl (b : Nat) (A : World) : Keep3 b A A := ⟨Nat.le_refl _, fun _ _ _ => rfl⟩
theorem Keep3.trans {b : Nat} {A A' B : World} (h : Keep3 b A A') (k : Keep3 b A' B) : Keep3 b A B := ⟨Nat.le_trans h.size k.size, fun i h1 h2 => (k.same i h1 h2).trans (h.same i h1 h2)⟩
theorem Keep3.put {b l : Nat} (A : World) (o : Obj) (h : b + 3 ≤ l) : Keep3 b A (A.putObj l o) := ⟨by simp, fun k _ h2 => World.putObj_heap_other (by omega)⟩
theorem Keep3.new {b : Nat} (A : World) (o : Obj) (h : b + 3 ≤ A.heap.size) : Keep3 b A (A.alloc o) :=
  ⟨by simp, fun k _ h2 => ((Below.refl A.heap.size A).alloc (Nat.le_refl _) o).block k (by omega)⟩
theorem Keep3.below {b B : Nat} {A A' : World} (h : Below B A A') (hB : b + 3 ≤ B) : Keep3 b A A' := ⟨h.size, fun k _ h2 => h.block k (by omega)⟩
theorem Keep3.cell {b : Nat} {A A' : World} (h : Keep3 b A A') {k : Nat} (h1 : b ≤ k) (h2 : k < b + 3) {v : Value} (hc : A.cell? ⟨k, 0, none⟩ = some v) : A'.cell? ⟨k, 0, none⟩ = some v := by
  unfold World.cell? at hc ⊢
  rw [h.same k h1 h2]; exact hc

/-- From A on A' holds all cells of A, and whatever lay below B. -/
structure Off (B : Nat) (A A' : World) : Prop where
  os : A'.os = A.os
  tape : A'.tape = A.tape
  output : A'.output = A.output
  size : A.heap.size ≤ A'.heap.size
  same : ∀ k o, A.heap[k]? = some o → (k < B ∨ o.isCells = true) → A'.heap[k]? = some o
theorem Off.new {B : Nat} (A : World) (o : Obj) : Off B A (A.alloc o) :=
  ⟨rfl, rfl, rfl, by simp, fun k o' h _ => (((Below.refl A.heap.size A).alloc (Nat.le_refl _) o).block k (Array.getElem?_eq_some_iff.1 h).1).trans h⟩
theorem Off.put {B l : Nat} (A : World) {o : Obj} (o' : Obj) (h : B ≤ l) (hl : A.heap[l]? = some o) (hc : o.isCells = false) : Off B A (A.putObj l o') := by
  refine ⟨rfl, rfl, rfl, by simp, fun k p hk hp => ?_⟩
  have hne : k ≠ l := by
    rintro rfl
    rcases hp with hp | hp
    · omega
    · rw [hl] at hk; cases hk; rw [hc] at hp; cases hp
  exact (World.putObj_heap_other hne).trans hk
theorem Off.of_below {B : Nat} {A A' : World} (h : Below A.heap.size A A') : Off B A A' :=
  ⟨h.os, h.tape, h.output, h.size, fun k o hk _ => (h.block k (Array.getElem?_eq_some_iff.1 hk).1).trans hk⟩
theorem keeps_of_below {B : Nat} {A A' : World} (h : Below A.heap.size A A') : KeepsFrom B A A' :=
  ⟨h.size, fun k o _ hk _ => (h.block k (Array.getElem?_eq_some_iff.1 hk).1).trans hk⟩
theorem Off.below {B n₀ : Nat} {w A A' : World} (h : Off B A A') (hb : Below n₀ w A) (hn : n₀ ≤ B) (hs : n₀ ≤ w.heap.size) : Below n₀ w A' :=
  ⟨h.os.trans hb.os, h.tape.trans hb.tape, h.output.trans hb.output, Nat.le_trans hb.size h.size, fun k hk => by
    have h1 := hb.block k hk
    have hks : k < w.heap.size := by omega
    rw [Array.getElem?_eq_getElem hks] at h1 ⊢
    exact h.same k _ h1 (.inl (by omega))⟩
theorem Off.boxed {B b : Nat} {A A' : World} {t : TypeId} {v : Value} (h : Off B A A') (hb : Boxed A b t v) : Boxed A' b t v := h.same b _ hb (.inr rfl)
theorem Off.owns {B base : Nat} {A A' : World} {e : TypeId} {v : Value} {k : Nat} {xs : List Value} (h : Off B A A') (ho : A.ownsRow base e 1 v k xs) : A'.ownsRow base e 1 v k xs :=
  ⟨ho.1, ho.2.imp id (fun ⟨g, cap, cur, a, b, c, r⟩ => ⟨g, cap, cur, a, b, h.same g _ c (.inr rfl), r⟩)⟩

/-- What an iterator promises that keeps what is to come in the cell b. -/
def SeqCell {α : Type} (F : Fence) (n : Nat) (P : Program) (gf : Nat) (lb : Array Value) (encs : α → Array Value) (b : Nat) (S Sp : List α → Prop) (Ok : List α → α → Prop) (w0 : World) : Prop :=
  ∀ (l : Nat) (J Jx : List α → World → Prop) (W : World), Keep3 b w0 W → (∀ pre A v, J pre A → J pre (A.setCell ⟨b, 0, none⟩ v)) →
    (∀ pre x A, J pre A → Ok pre x → YieldAt F (n - 1) P l (encs x) A fun e A' => (e = .returned (.bool true) ∧ J (pre ++ [x]) A' ∧ Keep3 b A A') ∨ (e = .returned (.bool false) ∧ Jx (pre ++ [x]) A')) →
    J [] W → CallsIn F n P gf (#[.func (.yield l) #[] #[]] ++ lb) W fun e W' => (∃ v, e = .returned v) ∧ ((∃ xs, S xs ∧ J xs W') ∨ (∃ pre, Sp pre ∧ Jx pre W'))

/-- THE CALLER'S LAW. -/
theorem range_cell {α : Type} {F : Fence} {n : Nat} {P : Program} {g : Operand} {ps : Array Tmp} {assign body : Code} {Q : Exit → Act → World → Prop} {a : Act} {w : World}
    (hro : F.round = none) (h1 : 1 ≤ n) {gf : Nat} {lb : Array Value} (hg : a.eval g = .func (.func gf) #[] lb) (hF : F.fn gf) (eg : ∀ args w, (callFunc gf args).run P w = .ok (.enter gf args) w)
    {encs : α → Array Value} {b : Nat} {S Sp : List α → Prop} {Ok : List α → α → Prop} (hseq : SeqCell F (n - 1) P gf lb encs b S Sp Ok w) (hbw : b + 3 ≤ w.heap.size) (hps : ∀ x, (encs x).size = ps.size)
    (I : List α → World → Prop) (Ix : Code → List α → World → Prop) (hIs : ∀ pre A v, I pre A → I pre (A.setCell ⟨b, 0, none⟩ v))
    (hI : ∀ pre A A', I pre A → Off w.heap.size A A' → I pre A') (hIx : ∀ c pre A A', Ix c pre A → Off w.heap.size A A' → Ix c pre A') (h0 : I [] w) (a1 : α → Act)
    (hassign : ∀ (l : Nat) (x : α) (A : World) (K : Act → World → Prop), K (a1 x) A →
      assign.wpIn (F.inRound l) (n - 1 - 1) P (Exit.then K (fun _ _ _ => False)) { tmps := (ps.zip (encs x)).foldl (fun t (p, v) => t.setIfInBounds p v) a.tmps, defers := [] } A)
    (hbody : ∀ (l : Nat) (pre : List α) (x : α) (A : World), I pre A → Ok pre x → body.wpIn (F.inRound l) (n - 1 - 1) P (ownPostG w.heap.size (Keep3 b) I Ix (pre ++ [x]) A) (a1 x) A)
    (hdone : ∀ (D : Nat) (xs : List α) (A : World), w.heap.size ≤ D → S xs → I xs A → A.heap[D]? = some (.deferred (some [])) → Q .normal { a with defers := { target := .collected D, args := #[] } :: a.defers } A)
    (hstop : ∀ (D : Nat) (c : Code) (pre : List α) (A : World), w.heap.size ≤ D → Sp pre → Ix c pre A → A.heap[D]? = some (.deferred (some [])) → c.wpIn F n P Q { a with defers := { target := .collected D, args := #[] } :: a.defers } A) :
    (Code.rangeFunc g ps assign body).wpIn F n P Q a w := by
  refine wpIn_rangeFunc fun fn hfn => ?_
  rw [hro]
  obtain ⟨D, hD⟩ : ∃ D, D = w.heap.size := ⟨_, rfl⟩
  obtain ⟨lp, hlp⟩ : ∃ lp : LoopState → Option Code → Loop, lp = fun st pe => { state := st, pending := pe, fn := fn, tmps := a.tmps, params := ps, assign := assign, body := body, defers := D } := ⟨_, rfl⟩
  obtain ⟨w1, hw1⟩ : ∃ w1, w1 = (w.alloc (.deferred (some []))).alloc (.loop (lp .ready none)) := ⟨_, rfl⟩
  have hLp : w1.heap[D + 1]? = some (.loop (lp .ready none)) := by
    have := World.alloc_heap_new (w.alloc (.deferred (some []))) (.loop (lp .ready none))
    rw [World.size_alloc, ← hw1, ← hD] at this; exact this
  have hDf : w1.heap[D]? = some (.deferred (some [])) := by
    rw [hw1, hD]
    exact (((Below.refl _ (w.alloc (.deferred (some [])))).alloc (Nat.le_refl _) (.loop (lp .ready none))).block _ (by simp)).trans (World.alloc_heap_new w _)
  have hk1 : Keep3 b w w1 := by rw [hw1]; exact (Keep3.new w _ hbw).trans (Keep3.new _ _ (by simp; omega))
  have hi1 : I [] w1 := by rw [hw1]; exact hI _ _ _ (hI _ _ _ h0 (Off.new _ _)) (Off.new _ _)
  refine ⟨D + 1, [{ target := .collected D, args := #[] }], w1, { target := .fn (.func gf) lb, args := #[.func (.yield (D + 1)) #[] #[]] }, w1, gf, #[.func (.yield (D + 1)) #[] #[]] ++ lb, w1, ?_, ?_, ?_, ?_, fun _ => h1, ?_⟩
  · rw [hw1, hD, hlp, hD]; exact run_enterLoop_outer _ _ _ _ _
  · simp only [resolve, hg]
    simp [go_sem]
  · intro f' hf'; simp [Target.leads] at hf'; subst hf'; exact hF
  · simp [invoke, go_sem, eg]
  refine (hseq (D + 1) (fun pre A => I pre A ∧ A.heap[D + 1]? = some (.loop (lp .ready none)) ∧ A.heap[D]? = some (.deferred (some [])))
    (fun pre A => ∃ c, Ix c pre A ∧ A.heap[D + 1]? = some (.loop (lp .done (some c))) ∧ A.heap[D]? = some (.deferred (some []))) w1 hk1 ?_ ?_ ⟨hi1, hLp, hDf⟩).mono ?_
  · rintro pre A v ⟨i1, i2, i3⟩
    exact ⟨hIs _ _ _ i1, (heap_setCell_other A ⟨b, 0, none⟩ (D + 1) v (by simp; omega)).trans i2, (heap_setCell_other A ⟨b, 0, none⟩ D v (by simp; omega)).trans i3⟩
  · rintro pre x A ⟨i1, i2, i3⟩ hlen
    have hy := run_yield (P := P) (args := encs x) i2 (by rw [hlp]; exact hps x)
    rw [hlp] at hy
    refine ⟨fn, _, assign, body, hy, roundIn_of_wpIn hfn (hassign _ x A _ ⟨_, run_beginRound i2 (by rw [hlp]), ?_⟩)⟩
    clear hy
    have hlt : D + 1 < A.heap.size := (Array.getElem?_eq_some_iff.1 i2).1
    obtain ⟨bz, hbz⟩ : ∃ bz, bz = A.putObj (D + 1) (.loop { lp .ready none with state := .busy }) := ⟨_, rfl⟩
    rw [← hbz]
    have j2 : bz.heap[D + 1]? = some (.loop { lp .ready none with state := .busy }) := by rw [hbz]; exact World.putObj_heap_same hlt
    have j3 : bz.heap[D]? = some (.deferred (some [])) := by rw [hbz]; exact (World.putObj_heap_other (by omega)).trans i3
    have jk : Keep3 b A bz := by rw [hbz]; exact Keep3.put A _ (by omega)
    have j1 : I pre bz := by rw [hbz]; exact hI _ _ _ i1 (Off.put A _ (by omega) i2 rfl)
    refine wpIn_mono (hbody _ pre x bz j1 hlen) ?_
    have fin : ∀ (jump : Option Code) (C : World), KeepsFrom w.heap.size bz C →
        (Instr.endRound (D + 1) jump).run P C = .ok (.bool jump.isNone) (C.putObj (D + 1) (.loop (lp (if jump.isNone then .ready else .done) jump))) ∧
        Off w.heap.size C (C.putObj (D + 1) (.loop (lp (if jump.isNone then .ready else .done) jump))) ∧
        Keep3 b C (C.putObj (D + 1) (.loop (lp (if jump.isNone then .ready else .done) jump))) ∧
        (C.putObj (D + 1) (.loop (lp (if jump.isNone then .ready else .done) jump))).heap[D + 1]? = some (.loop (lp (if jump.isNone then .ready else .done) jump)) ∧
        (C.putObj (D + 1) (.loop (lp (if jump.isNone then .ready else .done) jump))).heap[D]? = some (.deferred (some [])) := fun jump C hk => by
      have q2 := hk.same _ _ (by omega) j2 rfl
      have q3 := hk.same _ _ (by omega) j3 rfl
      refine ⟨?_, Off.put C _ (by omega) q2 rfl, Keep3.put C _ (by omega), World.putObj_heap_same (Array.getElem?_eq_some_iff.1 q2).1, (World.putObj_heap_other (by omega)).trans q3⟩
      have := run_endRound (P := P) jump q2
      rw [hlp] at this ⊢
      exact this
    rintro e a3 C hp
    cases e with
    | normal =>
      obtain ⟨hk, hkp, hi⟩ := hp
      obtain ⟨q1, q2, q3, q4, q5⟩ := fin none C hk
      exact ⟨_, _, q1, .inl ⟨rfl, ⟨hI _ _ _ hi q2, q4, q5⟩, (jk.trans hkp).trans q3⟩⟩
    | ret =>
      obtain ⟨hk, hi⟩ := hp
      obtain ⟨q1, q2, q3, q4, q5⟩ := fin (some .ret) C hk
      exact ⟨_, _, q1, .inr ⟨rfl, .ret, hIx _ _ _ _ hi q2, q4, q5⟩⟩
    | exit id =>
      obtain ⟨hk, hi⟩ := hp
      obtain ⟨q1, q2, q3, q4, q5⟩ := fin (some (.exit id)) C hk
      exact ⟨_, _, q1, .inr ⟨rfl, .exit id, hIx _ _ _ _ hi q2, q4, q5⟩⟩
    | goto t =>
      obtain ⟨hk, hi⟩ := hp
      obtain ⟨q1, q2, q3, q4, q5⟩ := fin (some (.goto t)) C hk
      exact ⟨_, _, q1, .inr ⟨rfl, .goto t, hIx _ _ _ _ hi q2, q4, q5⟩⟩
    | panic ch => exact hp.elim
    | outgrown => exact hp.elim
  · rintro e C ⟨⟨v, rfl⟩, (⟨xs, hS, hi, hl, hk⟩ | ⟨pre, hSp, c, hi, hl, hk⟩)⟩
    · have hr := run_endLoop (P := P) hl (by rw [hlp]; simp)
      rw [show (lp .ready none).pending = none by rw [hlp]] at hr
      exact ⟨none, _, hr, hdone D xs _ (by omega) hS (hI _ _ _ hi (Off.put C _ (by omega) hl rfl)) ((World.putObj_heap_other (by omega)).trans hk)⟩
    · have hr := run_endLoop (P := P) hl (by rw [hlp]; simp)
      rw [show (lp .done (some c)).pending = some c by rw [hlp]] at hr
      exact ⟨some c, _, hr, hstop D c pre _ (by omega) hSp (hIx _ _ _ _ hi (Off.put C _ (by omega) hl rfl)) ((World.putObj_heap_other (by omega)).trans hk)⟩

end Go.Proofs.YthecofkkacieaaaDoor.P7
