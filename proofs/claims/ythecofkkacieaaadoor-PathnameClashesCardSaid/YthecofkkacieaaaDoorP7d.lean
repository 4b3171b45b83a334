/-
  Layer 7, walks: the pieces of a text, by the library's iterator.
-/
import Derived.RangeFuncNested
import Derived.RangeFuncBound
import Derived.RangeFuncCalls
import Derived.RangeFuncLeaves
import Derived.Shelf.Abstract
import Derived.Shelf.RegionOpen
import Derived.OwnWalkIn
import Derived.TacticsInMore
import Derived.LoopNIn
import Derived.LoopIn
import Derived.Maps.AppendAt
import Derived.Test.YthecofkkacieaaaDoorP7c
namespace Go.Proofs.YthecofkkacieaaaDoor.P7
open Go.RowKit Go.Shelf Go.PlainAid M7
set_option linter.unusedVariables false
attribute [local go_sem] Oper.semAt_some

/-- How much is still to come. -/
def toCome (b : Nat) (w : World) : Nat :=
  match w.cell? ⟨b, 0, none⟩ with
  | some (.string s) => s.size
  | _ => 0
theorem toCome_box {b : Nat} {w : World} {t : TypeId} {l : List UInt8} (h : Boxed w b t (.string (bs l))) : toCome b w = l.length := by
  unfold toCome; rw [h.cell]; rfl
theorem Keep3.boxed {b : Nat} {A A' : World} (h : Keep3 b A A') {k : Nat} (h1 : b ≤ k) (h2 : k < b + 3) {t : TypeId} {v : Value} (hc : Boxed A k t v) : Boxed A' k t v := (h.same k h1 h2).trans hc

set_option maxRecDepth 100000 in
set_option maxHeartbeats 1000000 in
theorem seq1_in (n : Nat) (hn : 1 ≤ n) (b : Nat) (s : List UInt8) (hs : s.length ≤ 140737488351232) (w0 : World) (hb : b + 3 ≤ w0.heap.size)
    (b0 : Boxed w0 b 9 (.string (bs s))) (b1 : Boxed w0 (b + 1) 9 (.string ⟨#[47]⟩)) (b2 : Boxed w0 (b + 2) 3 (.int .i64 0)) :
    SeqCell Fence.wide n Tryd.prog 48 #[.pointer (some ⟨b + 1, 0, none⟩), .pointer (some ⟨b, 0, none⟩), .pointer (some ⟨b + 2, 0, none⟩)] (fun x : List UInt8 => #[.string (bs x)]) b
      (fun ys => ys = pieces s) (fun pre => pre <+: pieces s) (fun pre x => pre ++ [x] <+: pieces s) w0 := by
  intro l J Jx W hW hJ hY h0
  replace b0 := hW.boxed (Nat.le_refl _) (by omega) b0
  replace b1 := hW.boxed (by omega) (by omega) b1
  replace b2 := hW.boxed (by omega) (by omega) b2
  refine callsIn_of_wp Tryd.func48 rfl trivial ?_ rfl
  simp only [Tryd.ntmps48, List.size_toArray, List.length_cons, List.length_nil, Nat.reduceAdd, Nat.reduceSub, Array.replicate_succ, Array.replicate_zero, List.push_toArray, List.append_toArray, List.nil_append, List.cons_append]
  have c1 := b1.cell
  gi_wp2
  clear c1
  gi_loopw [7] (fun v wr => ∃ (pre : List (List UInt8)) (L : List UInt8), pre ++ pieces L = pieces s ∧ L.length ≤ s.length ∧ J pre wr ∧ Boxed wr b 9 (.string (bs L)) ∧ Boxed wr (b + 1) 9 (.string ⟨#[47]⟩) ∧ Boxed wr (b + 2) 3 (.int .i64 0))
    (fun _ wr => toCome b wr)
  case atStart => exact ⟨[], s, rfl, Nat.le_refl _, h0, b0, b1, b2⟩
  case round =>
    clear b0 b1 b2 h0
    obtain ⟨pre, L, hx, hL, hJs, b0, b1, b2⟩ := hrel
    have c0 := b0.cell
    have f0 := b0.frozen
    have c1 := b1.cell
    have c2 := b2.cell
    have HX := Lib.hid hx
    clear hx
    cases hc : cutB 47 L with
    | none =>
      have HI := Lib.hid (cutB_is hc)
      have HP := Lib.hid (pieces_none hc)
      clear hc
      gi_wp2_with (fail)
      refine ⟨trivial, (callsIn_wide.2 (index_at HI.out wr)).mono ?_⟩
      rintro e w1 ⟨rfl, rfl⟩
      obtain ⟨fn, tmps, assign, body, hy, hR⟩ := hY pre L wr hJs (by rw [← HX.out, HP.out]; exact List.prefix_refl _)
      gi_wp2
      have hpe : pre ++ [L] = pieces s := by rw [← HX.out, HP.out]
      have HE := Lib.hid hpe
      clear hpe
      refine hR.mono ?_
      rintro e W3 (⟨rfl, hJ3, hk3⟩ | ⟨rfl, hJx3⟩)
      · gi_wp2
        go_end0
        exact ⟨⟨_, rfl⟩, .inl ⟨_, HE.out, hJ3⟩⟩
      · gi_wp2
        go_end0
        exact ⟨⟨_, rfl⟩, .inr ⟨_, by rw [HE.out]; exact List.prefix_refl _, hJx3⟩⟩
    | some p =>
      obtain ⟨a, r⟩ := p
      have HP := Lib.hid (pieces_some hc)
      obtain ⟨m, hi, hm, ha, hr⟩ := cutB_at hc
      have HI := Lib.hid hi
      clear hc hi
      have e1 : (bs L).extract 0 m = bs a := by rw [ha]; exact ext_pre L m
      have e2 : (bs L).extract (m + 1) (bs L).size = bs r := by rw [hr]; exact ext_end (bs L) (m + 1)
      have hrl : r.length < L.length := by rw [hr, List.length_drop]; omega
      have h1 : m ≤ (bs L).size := by rw [bs_size]; omega
      have h2 : m + 1 ≤ (bs L).size := by rw [bs_size]; omega
      clear ha hr
      gi_wp2_with (fail)
      refine ⟨trivial, (callsIn_wide.2 (index_at HI.out wr)).mono ?_⟩
      rintro e w1 ⟨rfl, rfl⟩
      obtain ⟨fn, tmps, assign, body, hy, hR⟩ := hY pre a wr hJs (by rw [← HX.out, HP.out]; exact ⟨pieces r, by simp⟩)
      gi_wp2
      have hpe : (pre ++ [a]) ++ pieces r = pieces s := by rw [← HX.out, HP.out]; simp
      have HE := Lib.hid hpe
      clear hpe
      refine hR.mono ?_
      rintro e W3 (⟨rfl, hJ3, hk3⟩ | ⟨rfl, hJx3⟩)
      · have d0 := hk3.boxed (Nat.le_refl _) (by omega) b0
        have d1 := hk3.boxed (by omega) (by omega) b1
        have d2 := hk3.boxed (by omega) (by omega) b2
        have hto := toCome_box b0
        clear b0 b1 b2 c0 f0 c1 c2
        have c0 := d0.cell
        have f0 := d0.frozen
        have c1 := d1.cell
        gi_wp2
        go_roundw
        case rel => exact ⟨pre ++ [a], r, HE.out, by omega, hJ _ _ _ hJ3, d0.set _, d1.other (by omega) _, d2.other (by omega) _⟩
        case measure => rw [hto, toCome_box (d0.set (.string (bs r)))]; exact hrl
      · gi_wp2
        refine bodyPost_ret (results_none rfl _ _ _) rfl ?_
        exact ⟨⟨_, rfl⟩, .inr ⟨_, ⟨_, HE.out⟩, hJx3⟩⟩

set_option maxRecDepth 100000 in
set_option maxHeartbeats 400000 in
theorem seq_in (n : Nat) (s : List UInt8) (w : World) :
    CallsIn Fence.wide n Tryd.prog 39 #[.string (bs s), .string ⟨#[47]⟩, .int .i64 0] w fun e w' => e = .returned (.func (.func 48) #[] #[.pointer (some ⟨w.heap.size + 1, 0, none⟩), .pointer (some ⟨w.heap.size, 0, none⟩), .pointer (some ⟨w.heap.size + 2, 0, none⟩)]) ∧
      w' = ((w.alloc (.cells #[.string (bs s)] 9)).alloc (.cells #[.string ⟨#[47]⟩] 9)).alloc (.cells #[.int .i64 0] 3) := by
  refine callsIn_of_wp Tryd.func39 rfl trivial ?_ rfl
  simp only [Tryd.ntmps39, List.size_toArray, List.length_cons, List.length_nil, Nat.reduceAdd, Nat.reduceSub, Array.replicate_succ, Array.replicate_zero, List.push_toArray, List.append_toArray, List.nil_append, List.cons_append]
  gi_wp2
  go_ret
  exact ⟨by simp, rfl⟩

set_option maxRecDepth 100000 in
set_option maxHeartbeats 400000 in
/-- strings.SplitSeq at '/'. -/
theorem splitSeq_in (n : Nat) (hn : 1 ≤ n) (s : List UInt8) (w : World) :
    CallsIn Fence.wide n Tryd.prog 28 #[.string (bs s), .string ⟨#[47]⟩] w fun e w' => e = .returned (.func (.func 48) #[] #[.pointer (some ⟨w.heap.size + 1, 0, none⟩), .pointer (some ⟨w.heap.size, 0, none⟩), .pointer (some ⟨w.heap.size + 2, 0, none⟩)]) ∧
      w' = ((w.alloc (.cells #[.string (bs s)] 9)).alloc (.cells #[.string ⟨#[47]⟩] 9)).alloc (.cells #[.int .i64 0] 3) := by
  refine callsIn_of_wp Tryd.func28 rfl trivial ?_ rfl
  simp only [Tryd.ntmps28, List.size_toArray, List.length_cons, List.length_nil, Nat.reduceAdd, Nat.reduceSub, Array.replicate_succ, Array.replicate_zero, List.push_toArray, List.append_toArray, List.nil_append, List.cons_append]
  gi_wp2_with (fail)
  refine ⟨trivial, (seq_in _ s w).mono ?_⟩
  rintro e w1 ⟨rfl, rfl⟩
  gi_wp2
  go_ret
  exact ⟨by simp, rfl⟩

end Go.Proofs.YthecofkkacieaaaDoor.P7
