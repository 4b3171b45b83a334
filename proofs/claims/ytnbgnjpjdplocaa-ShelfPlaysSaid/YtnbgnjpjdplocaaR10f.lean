/-
  Layer 10: a shelf and the document's, side by side.
-/
import Derived.Test.YtnbgnjpjdplocaaR10e
namespace Go.Proofs.Ytnbgnjpjdplocaa.Q10
open Go.RowKit Go.PlainAid
set_option linter.unusedVariables false
set_option linter.unusedSimpArgs false

open Classical in
noncomputable def placeR (l : List En) (x : Nm) : Int × Int × Int :=
  if h : ∃ (j : Nat) (hj : j < l.length), l[j].1 = x then ((h.choose : Int), (seenN (l.take h.choose) : Int), 0) else (0, 0, 111)
theorem placeR_of {l : List En} {x : Nm} {e : Ending} (hn : (l.map Prod.fst).Nodup) (h : PlaceIs l x e) : e = .returned (.tuple #[.int .i64 (placeR l x).1, .int .i64 (placeR l x).2.1, .int .i64 (placeR l x).2.2]) := by
  rcases h with ⟨h1, rfl⟩ | ⟨j, hj, hx, rfl⟩
  · have : ¬ ∃ (j : Nat) (hj : j < l.length), l[j].1 = x := fun ⟨j, hj, h⟩ => h1 (by rw [← h]; exact List.mem_map_of_mem (List.getElem_mem hj))
    rw [placeR, dif_neg this]
  · have hex : ∃ (j : Nat) (hj : j < l.length), l[j].1 = x := ⟨j, hj, hx⟩
    obtain ⟨hj2, h2⟩ := hex.choose_spec
    have := nod_at hn hj hj2 (hx.trans h2.symm)
    rw [placeR, dif_pos hex, ← this]
def findR (l : List En) (a : Int) : Nm × Int := match nth l a with
  | some x => (x, 0)
  | none => ((0, 0, 0), 100)
theorem findR_of {l : List En} {a : Int} {e : Ending} (h : FindIs l a e) : e = .returned (.tuple #[nmV (findR l a).1, .int .i64 (findR l a).2]) := by
  rcases h with ⟨x, h1, rfl⟩ | ⟨h1, rfl⟩
  · rw [findR, h1]
  · rw [findR, h1]

structure Both (S : Sf) (R : Rf) (l m : List En) (w0 W : World) : Prop where
  own : Own S l w0 W
  ref : RefAt R m W
  mine : ∀ k ∈ R.foot, w0.heap.size ≤ k
  apart : ∀ k ∈ S.foot, k ∉ R.foot
def JO (s r : Nat) (w0 : World) (l m : List En) (W : World) : Prop := ∃ S R, S.s = s ∧ R.r = r ∧ Both S R l m w0 W
theorem JO.keep {s r : Nat} {w0 w w' : World} {l m : List En} (h : JO s r w0 l m w) (hb : Below w.heap.size w w') : JO s r w0 l m w' := by
  obtain ⟨S, R, h1, h2, h3⟩ := h
  exact ⟨S, R, h1, h2, h3.own.keep hb, h3.ref.keep hb, h3.mine, h3.apart⟩
theorem JO.below {s r : Nat} {w0 w : World} {l m : List En} (h : JO s r w0 l m w) : Below w0.heap.size w0 w := by
  obtain ⟨S, R, h1, h2, h3⟩ := h
  exact h3.own.below
theorem JO.nod {s r : Nat} {w0 w : World} {l m : List En} (h : JO s r w0 l m w) : (l.map Prod.fst).Nodup := by
  obtain ⟨S, R, h1, h2, h3⟩ := h
  rw [← h3.own.l]; exact h3.own.at_.names
theorem JO.few {s r : Nat} {w0 w : World} {l m : List En} (h : JO s r w0 l m w) : m.length ≤ 100000 := by
  obtain ⟨S, R, h1, h2, h3⟩ := h
  exact h3.ref.few
theorem JO.facts {s r : Nat} {w0 w : World} {l m : List En} (h : JO s r w0 l m w) : ∃ A c, w.cell? ⟨r, 0, none⟩ = some (.slice A m.length c) := by
  obtain ⟨S, R, h1, rfl, h3⟩ := h
  obtain ⟨A, c, B, d, c0, -⟩ := h3.ref.facts
  exact ⟨A, c, c0⟩
theorem Both.left {S : Sf} {R : Rf} {l l' m : List En} {w0 w w' : World} (h : Both S R l m w0 w) (hl : Left S l' w w') : JO S.s R.r w0 l' m w' := by
  obtain ⟨S', h1, h2, h3, h4, h5⟩ := hl
  have hlt := h.ref.foot_lt
  refine ⟨S', R, h1, rfl, ⟨h3, h2, h.own.below.trans (h4.below h.own.below.size h.own.mine), fun k hk => ?_⟩, h.ref.turn h4 (fun k hk hk2 => h.apart k hk2 hk), h.mine, fun k hk hk2 => ?_⟩
  · rcases h5 k hk with h6 | h6
    · exact h.own.mine k h6
    · have := h.own.below.size; omega
  · rcases h5 k hk with h6 | h6
    · exact h.apart k h6 hk2
    · have := hlt k hk2; omega
theorem Both.leftR {S : Sf} {R : Rf} {l m m' : List En} {w0 w w' : World} (h : Both S R l m w0 w) (hl : LeftR R m' w w') : JO S.s R.r w0 l m' w' := by
  obtain ⟨R', h1, h2, h4, h5⟩ := hl
  have hlt := h.own.at_.foot_lt
  refine ⟨S, R', rfl, h1, ⟨h.own.at_.turn h4 (fun k hk hk2 => h.apart k hk hk2), h.own.l, h.own.below.trans (h4.below h.own.below.size h.mine), h.own.mine⟩, h2, fun k hk => ?_, fun k hk hk2 => ?_⟩
  · rcases h5 k hk with h6 | h6
    · exact h.mine k h6
    · have := h.own.below.size; omega
  · rcases h5 k hk2 with h6 | h6
    · exact h.apart k hk h6
    · have := hlt k hk; omega
theorem JO.put {s r : Nat} {w0 w : World} {l m : List En} (h : JO s r w0 l m w) {a : Int} {x : Nm} {sn : Bool} (hx : okNm x) (h1 : -9223372036854775808 ≤ a) (h2 : a ≤ 9223372036854775807) (hfew : l.length + 1 ≤ 100000) :
    Calls Try.prog 12 #[.pointer (some ⟨s, 0, none⟩), .int .i64 a, nmV x, .bool sn] w fun e w' => e = .returned (.int .i64 (putE l a x)) ∧ JO s r w0 (putL l a (x, sn)) m w' := by
  obtain ⟨S, R, rfl, rfl, h3⟩ := h
  refine (put_as h3.own.l hx h1 h2 rfl rfl h3.own.at_ hfew).mono ?_
  rintro e w' ⟨he, hl⟩
  exact ⟨he, h3.left hl⟩
theorem JO.refPut {s r : Nat} {w0 w : World} {l m : List En} (h : JO s r w0 l m w) {a : Int} {x : Nm} {sn : Bool} (h1 : -9223372036854775808 ≤ a) (h2 : a ≤ 9223372036854775807) (hfew : m.length + 1 ≤ 100000) :
    Calls Try.prog 14 #[.pointer (some ⟨r, 0, none⟩), .int .i64 a, nmV x, .bool sn] w fun e w' => e = .returned (.int .i64 (putE m a x)) ∧ JO s r w0 l (putL m a (x, sn)) w' := by
  obtain ⟨S, R, rfl, rfl, h3⟩ := h
  refine (refPut_any R m a x sn h1 h2 w h3.ref hfew).mono ?_
  rintro e w' ⟨he, hl⟩
  exact ⟨he, h3.leftR hl⟩
theorem JO.show {s r : Nat} {w0 w : World} {l m : List En} (h : JO s r w0 l m w) {x : Nm} {b : Bool} (hx : okNm x) :
    Calls Try.prog 19 #[.pointer (some ⟨s, 0, none⟩), nmV x, .bool b] w fun e w' => e = .returned (.int .i64 (showE l x)) ∧ JO s r w0 (showL l x b) m w' := by
  obtain ⟨S, R, rfl, rfl, h3⟩ := h
  have hc := shShow_any S x b hx w h3.own.at_
  rw [h3.own.l] at hc
  refine hc.mono ?_
  rintro e w' ⟨he, hl⟩
  exact ⟨he, h3.left hl⟩
theorem JO.refShow {s r : Nat} {w0 w : World} {l m : List En} (h : JO s r w0 l m w) (hn : (m.map Prod.fst).Nodup) {x : Nm} {b : Bool} :
    Calls Try.prog 20 #[.pointer (some ⟨r, 0, none⟩), nmV x, .bool b] w fun e w' => e = .returned (.int .i64 (showE m x)) ∧ JO s r w0 l (showL m x b) w' := by
  obtain ⟨S, R, rfl, rfl, h3⟩ := h
  refine (refShow_any R m x b w h3.ref hn).mono ?_
  rintro e w' ⟨he, hl, ht⟩
  exact ⟨he, h3.leftR ⟨R, rfl, hl, ht, fun k hk => .inl hk⟩⟩
theorem JO.place {s r : Nat} {w0 w : World} {l m : List En} (h : JO s r w0 l m w) {x : Nm} (hx : okNm x) :
    Calls Try.prog 15 #[.pointer (some ⟨s, 0, none⟩), nmV x] w fun e w' => e = .returned (.tuple #[.int .i64 (placeR l x).1, .int .i64 (placeR l x).2.1, .int .i64 (placeR l x).2.2]) ∧ Below w.heap.size w w' := by
  have hn := h.nod
  obtain ⟨S, R, rfl, rfl, h3⟩ := h
  have hc := shPlace_any S x hx w h3.own.at_
  rw [h3.own.l] at hc
  exact hc.mono fun e w' ⟨he, hb⟩ => ⟨placeR_of hn he, hb⟩
theorem JO.refPlace {s r : Nat} {w0 w : World} {l m : List En} (h : JO s r w0 l m w) (hn : (m.map Prod.fst).Nodup) {x : Nm} :
    Calls Try.prog 16 #[.pointer (some ⟨r, 0, none⟩), nmV x] w fun e w' => e = .returned (.tuple #[.int .i64 (placeR m x).1, .int .i64 (placeR m x).2.1, .int .i64 (placeR m x).2.2]) ∧ Below w.heap.size w w' := by
  obtain ⟨S, R, rfl, rfl, h3⟩ := h
  exact (refPlace_any R m x w h3.ref).mono fun e w' ⟨he, hb⟩ => ⟨placeR_of hn he, hb⟩
theorem JO.find {s r : Nat} {w0 w : World} {l m : List En} (h : JO s r w0 l m w) {a : Int} (h1 : -9223372036854775808 ≤ a) (h2 : a ≤ 9223372036854775807) :
    Calls Try.prog 17 #[.pointer (some ⟨s, 0, none⟩), .int .i64 a] w fun e w' => e = .returned (.tuple #[nmV (findR l a).1, .int .i64 (findR l a).2]) ∧ Below w.heap.size w w' := by
  obtain ⟨S, R, rfl, rfl, h3⟩ := h
  have hc := shFind_any S a h1 h2 w h3.own.at_
  rw [h3.own.l] at hc
  exact hc.mono fun e w' ⟨he, hb⟩ => ⟨findR_of he, hb⟩
theorem JO.refFind {s r : Nat} {w0 w : World} {l m : List En} (h : JO s r w0 l m w) {a : Int} (h1 : -9223372036854775808 ≤ a) (h2 : a ≤ 9223372036854775807) :
    Calls Try.prog 18 #[.pointer (some ⟨r, 0, none⟩), .int .i64 a] w fun e w' => e = .returned (.tuple #[nmV (findR m a).1, .int .i64 (findR m a).2]) ∧ Below w.heap.size w w' := by
  obtain ⟨S, R, rfl, rfl, h3⟩ := h
  exact (refFind_any R m a h1 h2 w h3.ref).mono fun e w' ⟨he, hb⟩ => ⟨findR_of he, hb⟩
theorem JO.all {s r : Nat} {w0 w : World} {l m : List En} (h : JO s r w0 l m w) : Calls Try.prog 23 #[.pointer (some ⟨s, 0, none⟩)] w fun e w' => e = .returned (.int .i64 (l.length : Int)) ∧ Below w.heap.size w w' := by
  obtain ⟨S, R, rfl, rfl, h3⟩ := h
  exact (all_as h3.own.l h3.own.at_).mono fun e w' ⟨he, hw⟩ => ⟨he, by rw [hw]; exact Below.refl _ _⟩
theorem JO.count {s r : Nat} {w0 w : World} {l m : List En} (h : JO s r w0 l m w) : Calls Try.prog 21 #[.pointer (some ⟨s, 0, none⟩)] w fun e w' => e = .returned (.int .i64 (seenN l : Int)) ∧ Below w.heap.size w w' := by
  obtain ⟨S, R, rfl, rfl, h3⟩ := h
  exact (count_as h3.own.l h3.own.at_).mono fun e w' ⟨he, hw⟩ => ⟨he, by rw [hw]; exact Below.refl _ _⟩
theorem JO.refCount {s r : Nat} {w0 w : World} {l m : List En} (h : JO s r w0 l m w) : Calls Try.prog 22 #[.pointer (some ⟨r, 0, none⟩)] w fun e w' => e = .returned (.int .i64 (seenN m : Int)) ∧ Below w.heap.size w w' := by
  obtain ⟨S, R, rfl, rfl, h3⟩ := h
  exact (refCount_any R m w h3.ref).mono fun e w' ⟨he, hw⟩ => ⟨he, by rw [hw]; exact Below.refl _ _⟩
theorem JO.list {s r : Nat} {w0 w : World} {l m : List En} (h : JO s r w0 l m w) (q : Bool) : Calls Try.prog 10 #[.pointer (some ⟨s, 0, none⟩), .bool q] w fun e w' => ∃ A c, e = .returned (.slice A (listR l q).length c) ∧ Rd w' A (nms (listR l q)) ∧ Below w.heap.size w w' := by
  obtain ⟨S, R, rfl, rfl, h3⟩ := h
  have := shList_any S q w h3.own.at_
  rw [h3.own.l] at this
  exact this
theorem JO.refList {s r : Nat} {w0 w : World} {l m : List En} (h : JO s r w0 l m w) (q : Bool) : Calls Try.prog 11 #[.pointer (some ⟨r, 0, none⟩), .bool q] w fun e w' => ∃ A c, e = .returned (.slice A (listR m q).length c) ∧ Rd w' A (nms (listR m q)) ∧ Below w.heap.size w w' := by
  obtain ⟨S, R, rfl, rfl, h3⟩ := h
  exact refList_any R m q w h3.ref
/-- Both, new. -/
theorem JO.new {w0 w w2 : World} {S : Sf} (h : Own S [] w w2) (hb : Below w0.heap.size w0 w) : JO S.s w2.heap.size w0 [] [] (w2.alloc (.cells #[.slice none 0 0, .slice none 0 0] 30)) := by
  have hs := hb.size
  have hs2 := h.below.size
  have hk : Below w2.heap.size w2 (w2.alloc (.cells #[.slice none 0 0, .slice none 0 0] 30)) := (Below.refl _ _).alloc (Nat.le_refl _) _
  refine ⟨S, ⟨w2.heap.size, .slice none 0 0, .slice none 0 0⟩, rfl, rfl, ⟨h.at_.keep hk, h.l, (hb.trans (h.below.mono hs)).trans (hk.mono (by omega)), fun k hk => Nat.le_trans hs (h.mine k hk)⟩, ⟨heap_alloc_new w2 _, World.ownsRow_nil _ _ _ _, World.ownsRow_nil _ _ _ _, by simp [Rf.foot, obs, Value.ownBlock], by simp, fun _ => ⟨rfl, rfl⟩⟩, fun k hk => ?_, fun k hk hk2 => ?_⟩
  · have : k = w2.heap.size := by simpa [Rf.foot, obs, Value.ownBlock] using hk
    omega
  · have h1 : k = w2.heap.size := by simpa [Rf.foot, obs, Value.ownBlock] using hk2
    have h2 := h.at_.foot_lt k hk
    omega
theorem showL_len (l : List En) (x : Nm) (b : Bool) : (showL l x b).length = l.length := by simp [showL]

end Go.Proofs.Ytnbgnjpjdplocaa.Q10
