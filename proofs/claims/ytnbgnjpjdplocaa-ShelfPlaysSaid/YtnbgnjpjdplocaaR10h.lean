/-
  Layer 10: an act on both shelves: what stays.
-/
import Derived.Test.YtnbgnjpjdplocaaR10g
namespace Go.Proofs.Ytnbgnjpjdplocaa.Q10
open Go.RowKit Go.PlainAid
set_option linter.unusedVariables false
set_option linter.unusedSimpArgs false

/-- Both shelves beside a block that no call of theirs touches. -/
def JK (b : Nat) (o : Obj) (s r : Nat) (w0 : World) (l m : List En) (W : World) : Prop := ∃ S R, S.s = s ∧ R.r = r ∧ Both S R l m w0 W ∧ W.heap[b]? = some o ∧ b ∉ S.foot ∧ b ∉ R.foot
section
variable {b : Nat} {o : Obj} {s r : Nat} {w0 w w' : World} {l m : List En}
theorem JK.jo (h : JK b o s r w0 l m w) : JO s r w0 l m w := by
  obtain ⟨S, R, h1, h2, h3, -⟩ := h
  exact ⟨S, R, h1, h2, h3⟩
theorem JK.keep (h : JK b o s r w0 l m w) (hb : Below w.heap.size w w') : JK b o s r w0 l m w' := by
  obtain ⟨S, R, h1, h2, h3, h4, h5, h6⟩ := h
  exact ⟨S, R, h1, h2, ⟨h3.own.keep hb, h3.ref.keep hb, h3.mine, h3.apart⟩, (hb.block b (heap_lt h4)).trans h4, h5, h6⟩
theorem JK.heap (h : JK b o s r w0 l m w) : w.heap[b]? = some o := by
  obtain ⟨S, R, h1, h2, h3, h4, -⟩ := h
  exact h4
theorem JK.of (h : JO s r w0 l m w) (o : Obj) : JK w.heap.size o s r w0 l m (w.alloc o) := by
  have hk := h.keep (w' := w.alloc o) ((Below.refl _ _).alloc (Nat.le_refl _) _)
  obtain ⟨S, R, h1, h2, h3⟩ := h
  refine ⟨S, R, h1, h2, ⟨h3.own.keep ((Below.refl _ _).alloc (Nat.le_refl _) _), h3.ref.keep ((Below.refl _ _).alloc (Nat.le_refl _) _), h3.mine, h3.apart⟩, heap_alloc_new w o, fun hk => ?_, fun hk => ?_⟩
  · have := h3.own.at_.foot_lt _ hk; omega
  · have := h3.ref.foot_lt _ hk; omega
theorem Both.leftK {S : Sf} {R : Rf} {l' : List En} (h : Both S R l m w0 w) (hb : w.heap[b]? = some o) (n1 : b ∉ S.foot) (n2 : b ∉ R.foot) (hl : Left S l' w w') : JK b o S.s R.r w0 l' m w' := by
  obtain ⟨S', h1, h2, h3, h4, h5⟩ := hl
  have hlt := h.ref.foot_lt
  have hbl := heap_lt hb
  refine ⟨S', R, h1, rfl, ⟨⟨h3, h2, h.own.below.trans (h4.below h.own.below.size h.own.mine), fun k hk => ?_⟩, h.ref.turn h4 (fun k hk hk2 => h.apart k hk2 hk), h.mine, fun k hk hk2 => ?_⟩, (h4.block b hbl n1).trans hb, fun hk => ?_, n2⟩
  · rcases h5 k hk with h6 | h6
    · exact h.own.mine k h6
    · have := h.own.below.size; omega
  · rcases h5 k hk with h6 | h6
    · exact h.apart k h6 hk2
    · have := hlt k hk2; omega
  · rcases h5 b hk with h6 | h6
    · exact n1 h6
    · omega
theorem Both.leftRK {S : Sf} {R : Rf} {m' : List En} (h : Both S R l m w0 w) (hb : w.heap[b]? = some o) (n1 : b ∉ S.foot) (n2 : b ∉ R.foot) (hl : LeftR R m' w w') : JK b o S.s R.r w0 l m' w' := by
  obtain ⟨R', h1, h2, h4, h5⟩ := hl
  have hlt := h.own.at_.foot_lt
  have hbl := heap_lt hb
  refine ⟨S, R', rfl, h1, ⟨⟨h.own.at_.turn h4 (fun k hk hk2 => h.apart k hk hk2), h.own.l, h.own.below.trans (h4.below h.own.below.size h.mine), h.own.mine⟩, h2, fun k hk => ?_, fun k hk hk2 => ?_⟩, (h4.block b hbl n2).trans hb, n1, fun hk => ?_⟩
  · rcases h5 k hk with h6 | h6
    · exact h.mine k h6
    · have := h.own.below.size; omega
  · rcases h5 k hk2 with h6 | h6
    · exact h.apart k hk h6
    · have := hlt k hk; omega
  · rcases h5 b hk with h6 | h6
    · exact n2 h6
    · omega
theorem JK.put (h : JK b o s r w0 l m w) {a : Int} {x : Nm} {sn : Bool} (hx : okNm x) (h1 : -9223372036854775808 ≤ a) (h2 : a ≤ 9223372036854775807) (hfew : l.length + 1 ≤ 100000) :
    Calls Try.prog 12 #[.pointer (some ⟨s, 0, none⟩), .int .i64 a, nmV x, .bool sn] w fun e w' => e = .returned (.int .i64 (putE l a x)) ∧ JK b o s r w0 (putL l a (x, sn)) m w' := by
  obtain ⟨S, R, rfl, rfl, h3, h4, h5, h6⟩ := h
  refine (put_as h3.own.l hx h1 h2 rfl rfl h3.own.at_ hfew).mono ?_
  rintro e w' ⟨he, hl⟩
  exact ⟨he, h3.leftK h4 h5 h6 hl⟩
theorem JK.refPut (h : JK b o s r w0 l m w) {a : Int} {x : Nm} {sn : Bool} (h1 : -9223372036854775808 ≤ a) (h2 : a ≤ 9223372036854775807) (hfew : m.length + 1 ≤ 100000) :
    Calls Try.prog 14 #[.pointer (some ⟨r, 0, none⟩), .int .i64 a, nmV x, .bool sn] w fun e w' => e = .returned (.int .i64 (putE m a x)) ∧ JK b o s r w0 l (putL m a (x, sn)) w' := by
  obtain ⟨S, R, rfl, rfl, h3, h4, h5, h6⟩ := h
  refine (refPut_any R m a x sn h1 h2 w h3.ref hfew).mono ?_
  rintro e w' ⟨he, hl⟩
  exact ⟨he, h3.leftRK h4 h5 h6 hl⟩
theorem JK.show (h : JK b o s r w0 l m w) {x : Nm} {q : Bool} (hx : okNm x) :
    Calls Try.prog 19 #[.pointer (some ⟨s, 0, none⟩), nmV x, .bool q] w fun e w' => e = .returned (.int .i64 (showE l x)) ∧ JK b o s r w0 (showL l x q) m w' := by
  obtain ⟨S, R, rfl, rfl, h3, h4, h5, h6⟩ := h
  have hc := shShow_any S x q hx w h3.own.at_
  rw [h3.own.l] at hc
  refine hc.mono ?_
  rintro e w' ⟨he, hl⟩
  exact ⟨he, h3.leftK h4 h5 h6 hl⟩
theorem JK.refShow (h : JK b o s r w0 l m w) (hn : (m.map Prod.fst).Nodup) {x : Nm} {q : Bool} :
    Calls Try.prog 20 #[.pointer (some ⟨r, 0, none⟩), nmV x, .bool q] w fun e w' => e = .returned (.int .i64 (showE m x)) ∧ JK b o s r w0 l (showL m x q) w' := by
  obtain ⟨S, R, rfl, rfl, h3, h4, h5, h6⟩ := h
  refine (refShow_any R m x q w h3.ref hn).mono ?_
  rintro e w' ⟨he, hl, ht⟩
  exact ⟨he, h3.leftRK h4 h5 h6 ⟨R, rfl, hl, ht, fun k hk => .inl hk⟩⟩
end

/-- An act's cells. -/
def actO (a at_ x1 x2 x3 : Int) (q : Bool) : Obj := .cells #[.int .i64 a, .int .i64 at_, .int .i64 x1, .int .i64 x2, .int .i64 x3, .bool q] 37
def actV (a at_ x1 x2 x3 : Int) (q : Bool) : Value := .agg #[.int .i64 a, .int .i64 at_, .int .i64 x1, .int .i64 x2, .int .i64 x3, .bool q]
/-- What a call of same may leave. -/
def Same (s r : Nat) (w0 : World) (l : List En) (W : World) : Prop := ∃ l' : List En, l'.length ≤ l.length + 1 ∧ JO s r w0 l' l' W
def ActS (b : Nat) (at_ x1 x2 x3 : Int) (q : Bool) (W : World) : Prop :=
  W.cell? ⟨b, 1, none⟩ = some (.int .i64 at_) ∧ W.cell? ⟨b, 2, none⟩ = some (.int .i64 x1) ∧ W.cell? ⟨b, 3, none⟩ = some (.int .i64 x2) ∧ W.cell? ⟨b, 4, none⟩ = some (.int .i64 x3) ∧ W.cell? ⟨b, 5, none⟩ = some (.bool q)
theorem JK.act {b : Nat} {a at_ x1 x2 x3 : Int} {q : Bool} {s r : Nat} {w0 w : World} {l m : List En} (h : JK b (actO a at_ x1 x2 x3 q) s r w0 l m w) :
    w.cell? ⟨b, 1, none⟩ = some (.int .i64 at_) ∧ w.cell? ⟨b, 2, none⟩ = some (.int .i64 x1) ∧ w.cell? ⟨b, 3, none⟩ = some (.int .i64 x2) ∧ w.cell? ⟨b, 4, none⟩ = some (.int .i64 x3) ∧ w.cell? ⟨b, 5, none⟩ = some (.bool q) :=
  ⟨cells_at h.heap 1, cells_at h.heap 2, cells_at h.heap 3, cells_at h.heap 4, cells_at h.heap 5⟩
theorem showL_le (l : List En) (x : Nm) (b : Bool) : (showL l x b).length ≤ l.length + 1 := by rw [showL_len]; omega
theorem putL_le (l : List En) (a : Int) (e : En) : (putL l a e).length ≤ l.length + 1 := by
  simp only [putL]
  split
  · omega
  · split
    · omega
    · simp only [insEn, List.length_append, List.length_take, List.length_drop, List.length_cons, List.length_nil]; omega

end Go.Proofs.Ytnbgnjpjdplocaa.Q10
