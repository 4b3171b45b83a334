/-
  Layer 10, walks: New, List.
-/
import Derived.Test.YtnbgnjpjdplocaaQ10i
namespace Go.Proofs.Ytnbgnjpjdplocaa.Q10
open Go.RowKit Go.PlainAid
set_option linter.unusedVariables false
set_option linter.unusedSimpArgs false

def nms (l : List Nm) : List Value := l.flatMap nmC
theorem nms_len (l : List Nm) : (nms l).length = l.length * 3 := by
  induction l with
  | nil => rfl
  | cons e l ih => rw [show nms (e :: l) = nmC e ++ nms l from rfl, List.length_append, ih, List.length_cons]; simp [nmC]; omega
theorem nms_snoc (l : List Nm) (x : Nm) : nms (l ++ [x]) = nms l ++ nmC x := by simp [nms]
theorem nms_get : ∀ {l : List Nm} {k : Nat} (h : k < l.length), (nms l)[k * 3]? = some (.int .i64 l[k].1) ∧ (nms l)[k * 3 + 1]? = some (.int .i64 l[k].2.1) ∧ (nms l)[k * 3 + 2]? = some (.int .i64 l[k].2.2) := by
  intro l
  induction l with
  | nil => intro k h; simp at h
  | cons e l ih =>
    intro k h
    cases k with
    | zero => exact ⟨rfl, rfl, rfl⟩
    | succ k =>
      have := ih (k := k) (by simpa using h)
      have e1 : nms (e :: l) = .int .i64 e.1 :: .int .i64 e.2.1 :: .int .i64 e.2.2 :: nms l := rfl
      rw [e1, show (k + 1) * 3 = k * 3 + 3 by omega]
      exact this
theorem nm_cells {w : World} {A : Option Addr} {l : List Nm} (h : Rd w A (nms l)) {k : Nat} (hk : k < l.length) :
    ∃ b off, A = some ⟨b, off, none⟩ ∧ b < w.heap.size ∧ w.cell? ⟨b, off + k * 3, none⟩ = some (.int .i64 l[k].1) ∧ w.cell? ⟨b, off + k * 3 + 1, none⟩ = some (.int .i64 l[k].2.1) ∧ w.cell? ⟨b, off + k * 3 + 2, none⟩ = some (.int .i64 l[k].2.2) := by
  have hl := nms_len l
  obtain ⟨g0, g1, g2⟩ := nms_get hk
  rcases h with h | ⟨b, off, e, hb, hc⟩
  · rw [h] at hl; simp at hl; omega
  · refine ⟨b, off, e, hb, ?_, ?_, ?_⟩
    · have := hc (k * 3) (by omega)
      rw [List.getElem?_eq_getElem (by omega)] at g0
      rw [this, g0]
    · have := hc (k * 3 + 1) (by omega)
      rw [List.getElem?_eq_getElem (by omega)] at g1
      rw [Nat.add_assoc, this, g1]
    · have := hc (k * 3 + 2) (by omega)
      rw [List.getElem?_eq_getElem (by omega)] at g2
      rw [Nat.add_assoc, this, g2]
theorem nmC_one (x : Nm) : ∀ u ∈ nmC x, u.oneCell' = true := by
  intro u hu
  simp [nmC] at hu
  rcases hu with rfl | rfl | rfl <;> rfl
theorem cell_three_new (w : World) (x y z : Value) (t : TypeId) : ∀ j u, [x, y, z][j]? = some u → (w.alloc (.cells #[x, y, z] t)).cell? ((⟨w.heap.size, 0, none⟩ : Addr).add j) = some u := by
  intro j u hu
  rw [add_none, Nat.zero_add]
  have := World.cell?_alloc_mark w #[x, y, z] t (0, 0) j
  rw [this]
  match j, hu with
  | 0, hu => exact hu
  | 1, hu => exact hu
  | 2, hu => exact hu
  | j + 3, hu => simp at hu
theorem infoId : (Try.prog.info? 35).map (fun i => (i.zero, i.size, i.bytes)) = some (some (.agg #[.int .i64 0, .int .i64 0, .int .i64 0]), 3, 24) := by kernel_rfl
theorem own_zero {w : World} {B e k n : Nat} {v : Value} {xs : List Value} (h : w.ownsRow B e k v n xs) : w.ownsRow 0 e k v n xs := by
  refine ⟨h.1, ?_⟩
  rcases h.2 with h | ⟨g, cap, cur, e, _, r⟩
  · exact .inl h
  · exact .inr ⟨g, cap, cur, e, Nat.zero_le _, r⟩

/-- All ids, or those alone that are seen. -/
def listR (l : List En) (seen : Bool) : List Nm := (l.filter fun e => e.2 || !seen).map Prod.fst
theorem listR_append (a b : List En) (s : Bool) : listR (a ++ b) s = listR a s ++ listR b s := by simp [listR]
theorem listR_le (l : List En) (s : Bool) : (listR l s).length ≤ l.length := by simp [listR]; exact List.length_filter_le _ _
theorem listR_snoc {l : List En} {k : Nat} (h : k < l.length) (s : Bool) : listR (l.take (k + 1)) s = listR (l.take k) s ++ (if l[k].2 || !s then [l[k].1] else []) := by
  rw [List.take_succ_eq_append_getElem h, listR_append]
  congr 1
  cases hq : (l[k].2 || !s) <;> simp [listR, hq]

set_option maxRecDepth 100000 in
set_option maxHeartbeats 2000000 in
theorem new_any (w : World) : Calls Try.prog 7 #[] w fun e w' => ∃ S, e = .returned (.pointer (some ⟨S.s, 0, none⟩)) ∧ flat S.bks = [] ∧ ShAt S w' ∧ Below w.heap.size w w' ∧ ∀ k ∈ S.foot, w.heap.size ≤ k := by
  have hmm := @run_makeMap Try.prog
  go_enter Try.func7, Try.ntmps7
  go_wp2
  go_ret
  refine ⟨⟨w.heap.size + 3, w.heap.size + 2, .slice (some ⟨w.heap.size + 1, 0, none⟩) 1 1, [⟨w.heap.size, .slice none 0 0, []⟩]⟩, rfl, rfl, ?_, ?_, ?_⟩
  · have h0 := heap_alloc_new w (.cells #[.slice none 0 0, .int .i64 0] 57)
    have h1 := heap_alloc_new (w.alloc (.cells #[.slice none 0 0, .int .i64 0] 57)) (.cells #[.pointer (some ⟨w.heap.size, 0, none⟩)] 54)
    have hH := Home.made ((w.alloc (.cells #[.slice none 0 0, .int .i64 0] 57)).alloc (.cells #[.pointer (some ⟨w.heap.size, 0, none⟩)] 54))
    have h3 := heap_alloc_new (((w.alloc (.cells #[.slice none 0 0, .int .i64 0] 57)).alloc (.cells #[.pointer (some ⟨w.heap.size, 0, none⟩)] 54)).alloc (.map #[] 0)) (.cells #[.slice (some ⟨w.heap.size + 1, 0, none⟩) 1 1, .map (some (w.heap.size + 1 + 1))] 61)
    simp only [World.size_alloc] at h1 hH h3
    refine ⟨h3, ⟨by simp [ptrs], .inr ⟨w.heap.size + 1, 1, #[.pointer (some ⟨w.heap.size, 0, none⟩)], rfl, Nat.zero_le _, heap_past (heap_past h1 _) _, Nat.le_refl _, by unfold maxLen; omega, by simp, by simp [ptrs]⟩⟩, ?_, ?_, by simp, ?_, by simp [flat], by simp⟩
    · intro b hb
      obtain rfl : b = ⟨w.heap.size, .slice none 0 0, []⟩ := by simpa using hb
      exact ⟨heap_past (heap_past (heap_past h0 _) _) _, by simp [ens], .inl ⟨rfl, rfl⟩⟩
    · simp [Sf.foot, obs, Bk.foot, Value.ownBlock]
    · exact hH.turn (Turn.of_below ((Below.refl _ _).alloc (Nat.le_refl _) _) (fun _ => False)) (fun h => h)
  · exact (((((Below.refl _ w).alloc (Nat.le_refl _) _).alloc (by simp) _).alloc (by simp; omega) _).alloc (by simp; omega) _)
  · intro k hk
    simp [Sf.foot, obs, Bk.foot, Value.ownBlock] at hk
    omega

set_option maxRecDepth 100000 in
set_option maxHeartbeats 2000000 in
theorem shList_any (S : Sf) (q : Bool) (w : World) (h : ShAt S w) : Calls Try.prog 10 #[.pointer (some ⟨S.s, 0, none⟩), .bool q] w fun e w' =>
    ∃ A c, e = .returned (.slice A (listR (flat S.bks) q).length c) ∧ Rd w' A (nms (listR (flat S.bks) q)) ∧ Below w.heap.size w w' := by
  obtain ⟨i0, hi, hz0, hz1, hz2⟩ := info_parts infoId
  obtain ⟨A, c, c0, c1, hr, hc, hm, -⟩ := h.facts
  have hsl := h.foot_lt S.s (by simp [Sf.foot])
  have H := Lib.hid h
  have HR := Lib.hid hr
  have hsh := h.short
  have hfew := h.few
  clear h hr c1
  go_enter Try.func10, Try.ntmps10
  go_wp2
  go_loopw [5, 15] (fun vs ix wr => ∃ k : Nat, k ≤ S.bks.length ∧ ix = .int .i64 (k : Int) ∧ Hid (wr.ownsRow w.heap.size 35 3 vs (listR (flat (S.bks.take k)) q).length (nms (listR (flat (S.bks.take k)) q))) ∧ Hid (Below w.heap.size w wr)) (fun _ i _ => S.bks.length - (intOf i).toNat)
  case atStart => exact ⟨0, by omega, rfl, World.ownsRow_nil _ _ _ _, Below.refl _ _⟩
  case round =>
    obtain ⟨k, hk, rfl, HO, HB⟩ := hrel
    by_cases hlt : k < S.bks.length
    · obtain ⟨b, off, rfl, hbl, p0⟩ := ptrs_cell (HR.out.keep HB.out) hlt
      have hat := H.out.each S.bks[k] (List.getElem_mem hlt)
      obtain ⟨A2, c2, d0, d1, hr2, hc2, hm2, -⟩ := hat.facts
      have hpl := heap_lt hat.1
      replace d0 := (HB.out.cell (p := ⟨S.bks[k].p, 0, none⟩) hpl).trans d0
      have HR2 := Lib.hid hr2
      have hb1 := es_few hlt
      have HF := Lib.hid (flat_succ hlt)
      obtain ⟨es, hes⟩ : ∃ es, es = S.bks[k].es := ⟨_, rfl⟩
      obtain ⟨fl, hfl⟩ : ∃ fl, fl = flat (S.bks.take k) := ⟨_, rfl⟩
      rw [← hes] at d0 HR2 hb1 HF hc2
      rw [← hfl] at HO hb1 HF
      have hsz := HB.out.size
      clear hr2 d1 hes hfl hat
      generalize S.bks[k].p = pk at *
      obtain ⟨wo, rfl⟩ : ∃ wo : World, wo = wr := ⟨_, rfl⟩
      go_wp2
      go_loopw [5, 24] (fun vs ix wr => ∃ m : Nat, m ≤ es.length ∧ ix = .int .i64 (m : Int) ∧ Hid (wr.ownsRow w.heap.size 35 3 vs (listR (fl ++ es.take m) q).length (nms (listR (fl ++ es.take m) q))) ∧ Hid (Below w.heap.size w wr)) (fun _ i _ => es.length - (intOf i).toNat)
      case atStart => exact ⟨0, by omega, rfl, by simpa using HO, HB⟩
      case round =>
        clear HO HB p0 d0 hsz
        obtain ⟨m, hm2, rfl, HO, HB⟩ := hrel
        by_cases hlt2 : m < es.length
        · obtain ⟨b3, off3, rfl, hbl3, x0, x1, x2, x3⟩ := en_cells (HR2.out.keep HB.out) hlt2
          have hsz := HB.out.size
          have hLE := listR_le (fl ++ es.take m) q
          rw [List.length_append, List.length_take] at hLE
          have hsn : listR (fl ++ es.take (m + 1)) q = listR (fl ++ es.take m) q ++ (if es[m].2 || !q then [es[m].1] else []) := by
            rw [listR_append, listR_append, listR_snoc hlt2, List.append_assoc]
          have hnm : nmC es[m].1 = [.int .i64 es[m].1.1, .int .i64 es[m].1.2.1, .int .i64 es[m].1.2.2] := rfl
          have HS := Lib.hid (And.intro hsn hnm)
          clear hsn hnm
          have HO1 := Lib.hid (HO.out.alloc (.cells #[.int .i64 es[m].1.1, .int .i64 es[m].1.2.1, .int .i64 es[m].1.2.2, .bool es[m].2] 63))
          have HO2 := Lib.hid (HO1.out.alloc (.cells #[.int .i64 es[m].1.1, .int .i64 es[m].1.2.1, .int .i64 es[m].1.2.2] 35))
          have hnn := (cell_three_new (wr.alloc (.cells #[.int .i64 es[m].1.1, .int .i64 es[m].1.2.1, .int .i64 es[m].1.2.2, .bool es[m].2] 63)) (.int .i64 es[m].1.1) (.int .i64 es[m].1.2.1) (.int .i64 es[m].1.2.2) 35)
          rw [World.size_alloc] at hnn
          have HN := Lib.hid hnn
          clear hnn
          generalize es[m].1.1 = y1 at *
          generalize es[m].1.2.1 = y2 at *
          generalize es[m].1.2.2 = y3 at *
          have hN1 : ∀ u ∈ [Value.int .i64 y1, .int .i64 y2, .int .i64 y3], u.oneCell' = true := by
            intro u hu
            simp at hu
            rcases hu with rfl | rfl | rfl <;> rfl
          cases hs : es[m].2 <;> cases q
          all_goals (rw [hs] at HS HO1 HO2 HN x3; clear hs)
          case false.true =>
            go_wp2
            go_roundw
            case rel => exact ⟨m + 1, by omega, by go_num, by rw [HS.out.1]; simpa using HO1, HB.out.alloc (by omega) _⟩
            case measure => simp [intOf]; omega
          all_goals
            go_wp2_with (at_builtin; refine wpList_append_own _ rfl _ _ 27 rfl w.heap.size 35 i0 (.agg #[.int .i64 0, .int .i64 0, .int .i64 0]) 3 24 Try.underlying27 hi hz0 hz1 hz2 rfl (by decide) _ _ _ rfl HO2.out ⟨wr.heap.size + 1, 0, none⟩ 1 1 [.int .i64 y1, .int .i64 y2, .int .i64 y3] rfl rfl HN.out hN1 (by unfold maxLen; omega) (by omega) (by simp; omega) ?_; intro v' w1 hown1 hg1 hnil)
            go_roundw
            case rel =>
              refine ⟨m + 1, by omega, by go_num, ?_, ?_⟩
              · show w1.ownsRow _ _ _ _ _ _
                rw [HS.out.1]
                simp only [Bool.or_false, Bool.or_true, Bool.false_or, Bool.true_or, Bool.not_false, Bool.not_true, if_true]
                rw [nms_snoc, List.length_append, HS.out.2]
                exact hown1
              · exact ((HB.out.alloc (by omega) _).alloc (by simp; omega) _).grown hg1 (by simp; omega) (fun g hg => (HO2.out.lt g hg).1)
            case measure => simp [intOf]; omega
        · obtain rfl : m = es.length := by omega
          rw [List.take_length, ← HF.out] at HO
          go_wp2
          go_roundw
          case rel => exact ⟨k + 1, by omega, by go_num, HO, HB⟩
          case measure => simp [intOf]; omega
    · obtain rfl : k = S.bks.length := by omega
      rw [List.take_length] at HO
      obtain ⟨A3, c3, rfl, hr3, -⟩ := own_rd (own_zero HO.out)
      have HR3 := Lib.hid hr3
      clear hr3
      go_wp2
      go_ret
      exact ⟨A3, c3, rfl, HR3.out, HB.out⟩

end Go.Proofs.Ytnbgnjpjdplocaa.Q10
