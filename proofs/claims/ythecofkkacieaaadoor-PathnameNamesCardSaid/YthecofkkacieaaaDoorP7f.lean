/-
  Layer 7, walks: Split, of a path with pieces.
-/
import Derived.Test.YthecofkkacieaaaDoorP7e
import Derived.OneCell
namespace Go.Proofs.YthecofkkacieaaaDoor.P7
open Go.RowKit Go.Shelf Go.PlainAid M7
open S5 (Env ts)
set_option linter.unusedVariables false
attribute [local go_sem] Oper.semAt_some

theorem own_base {w : World} {B B' : Nat} {e : TypeId} {v : Value} {n : Nat} {xs : List Value} (h : w.ownsRow B e 1 v n xs) (hb : B' ≤ B) : w.ownsRow B' e 1 v n xs :=
  ⟨h.1, h.2.imp id (fun ⟨g, cap, cur, a, b, r⟩ => ⟨g, cap, cur, a, Nat.le_trans hb b, r⟩)⟩
theorem own_apart {w : World} {B b : Nat} {e : TypeId} {v : Value} {n : Nat} {xs : List Value} (h : w.ownsRow B e 1 v n xs) (hb : b < B) : some b ≠ v.ownBlock := fun e' => by
  have := (h.lt _ e'.symm).1; omega

/-- What the loop of Split keeps, the pieces 'pre' having come. -/
def Mid (w : World) (pre : List (List UInt8)) (A : World) : Prop :=
  (∀ x ∈ pre, seenB x = true) ∧
  (∃ v, Boxed A (w.heap.size + 2) 32 v ∧ A.ownsRow (w.heap.size + 6) 9 1 v (pre.take 21).length (ts (pre.take 21))) ∧
  Boxed A w.heap.size 32 (.slice none 0 0) ∧ Boxed A (w.heap.size + 1) 26 (.int .i64 0) ∧ Below w.heap.size w A ∧ w.heap.size + 6 ≤ A.heap.size
/-- Where it leaves at a wrong piece. -/
def Wrong (w : World) (c : Code) (pre : List (List UInt8)) (A : World) : Prop :=
  c = .ret ∧ (∃ p x, pre = p ++ [x] ∧ seenB x = false) ∧
  Boxed A w.heap.size 32 (.slice none 0 0) ∧ Boxed A (w.heap.size + 1) 26 (.int .i64 70) ∧ Below w.heap.size w A
theorem Mid.off {w : World} {B : Nat} {pre : List (List UInt8)} {A A' : World} (h : Mid w pre A) (ho : Off B A A') (hB : w.heap.size ≤ B) : Mid w pre A' := by
  obtain ⟨h1, ⟨v, h2, h3⟩, h4, h5, h6, h7⟩ := h
  exact ⟨h1, ⟨v, ho.boxed h2, ho.owns h3⟩, ho.boxed h4, ho.boxed h5, ho.below h6 hB (Nat.le_refl _), Nat.le_trans h7 ho.size⟩
theorem Wrong.off {w : World} {B : Nat} {c : Code} {pre : List (List UInt8)} {A A' : World} (h : Wrong w c pre A) (ho : Off B A A') (hB : w.heap.size ≤ B) : Wrong w c pre A' := by
  obtain ⟨h1, h2, h4, h5, h6⟩ := h
  exact ⟨h1, h2, ho.boxed h4, ho.boxed h5, ho.below h6 hB (Nat.le_refl _)⟩
theorem Mid.set {w : World} {pre : List (List UInt8)} {A : World} (h : Mid w pre A) (v : Value) : Mid w pre (A.setCell ⟨w.heap.size + 3, 0, none⟩ v) := by
  obtain ⟨h1, ⟨u, h2, h3⟩, h4, h5, h6, h7⟩ := h
  refine ⟨h1, ⟨u, h2.other (by omega) _, ownsRow_setCell_other (a := ⟨w.heap.size + 3, 0, none⟩) h3 (own_apart h3 (b := w.heap.size + 3) (by omega)).symm v⟩, h4.other (by omega) _, h5.other (by omega) _, h6.setCell (p := ⟨w.heap.size + 3, 0, none⟩) (by simp) _, by simp; exact h7⟩
theorem take_on {pre : List (List UInt8)} {x : List UInt8} (h : pre.length ≤ 20) : (pre ++ [x]).take 21 = pre.take 21 ++ [x] := by
  rw [List.take_of_length_le (by simp; omega), List.take_of_length_le (by omega)]
theorem take_full {pre : List (List UInt8)} {x : List UInt8} (h : 20 < pre.length) : (pre ++ [x]).take 21 = pre.take 21 := by
  rw [List.take_append_of_le_length (by omega)]

theorem keep3_append {W w1 : World} {tmp : Obj} {v : Value} {base b B : Nat} {e : TypeId} {k : Nat} {xs : List Value} (hg : (W.alloc tmp).grownBy w1 v.ownBlock) (hrow : W.ownsRow base e 1 v k xs) (hb : b + 3 ≤ base) (hs : b + 3 ≤ W.heap.size) (hB : B < b) (u : Value) :
    Keep3 b W (w1.setCell ⟨B, 0, none⟩ u) := by
  have h1 : Keep3 b W (W.alloc tmp) := Keep3.new W tmp hs
  have h2 : Keep3 b (W.alloc tmp) w1 := ⟨hg.size, fun j _ h2 => hg.block j (by simp; omega) (own_apart hrow (by omega))⟩
  have h3 : Keep3 b w1 (w1.setCell ⟨B, 0, none⟩ u) := ⟨by simp, fun j h1 _ => heap_setCell_other w1 ⟨B, 0, none⟩ j u (by simp; omega)⟩
  exact (h1.trans h2).trans h3

set_option maxRecDepth 100000 in
set_option maxHeartbeats 4000000 in
theorem split_main {r : List UInt8} (h0 : r ≠ []) (hz : (47 :: r).length ≤ 1000000) (w : World) (he : Env w) {l : List (List UInt8)} {x : Int} (hsp : splitP (47 :: r) = (l, x)) :
    Calls Tryd.prog 14 #[.string (bs (47 :: r))] w (SplitE l x w) := by
  have HE := Lib.hid he
  have HSP := Lib.hid hsp
  have hq : ((bs (47 :: r)).toList == [47]) = false := by
    rw [bs_toList, beq_eq_false_iff_ne]
    intro e; injection e with _ e; exact h0 e
  have e1 : (bs (47 :: r)).extract 1 (bs (47 :: r)).size = bs r := ext_end (bs (47 :: r)) 1
  have h1 : 1 ≤ (bs (47 :: r)).size := by rw [bs_size]; simp
  have hrl : r.length ≤ 1000000 := by simp at hz; omega
  clear he hsp
  refine (callsIn_wide (n := 9)).1 ?_
  refine callsIn_of_wp_marks Tryd.func14 rfl trivial ?_ rfl
  simp only [Tryd.ntmps14, List.size_toArray, List.length_cons, List.length_nil, Nat.reduceAdd, Nat.reduceSub, Array.replicate_succ, Array.replicate_zero, List.push_toArray, List.append_toArray, List.nil_append, List.cons_append]
  gi_wp2_with (fail)
  refine ⟨trivial, (callsIn_wide.2 (slash_any (p := 47 :: r) (b := true) (by simp) (by omega) _)).mono ?_⟩
  rintro e w1 ⟨rfl, rfl⟩
  gi_wp2_with (fail)
  refine ⟨trivial, (splitSeq_in _ (by omega) r _).mono ?_⟩
  rintro e w1 ⟨rfl, rfl⟩
  gi_wp2_with (fail)
  simp only [Nat.add_assoc, Nat.reduceAdd]
  obtain ⟨W0, hW0⟩ : ∃ W0, ((((((w.alloc (.cells #[.slice none 0 0] 32)).alloc (.cells #[.int .i64 0] 26)).alloc (.cells #[.slice none 0 0] 32)).alloc (.cells #[.string (bs r)] 9)).alloc (.cells #[.string ⟨#[47]⟩] 9)).alloc (.cells #[.int .i64 0] 3)) = W0 := ⟨_, rfl⟩
  have hsz : W0.heap.size = w.heap.size + 6 := by rw [← hW0]; simp
  have hbW : Below w.heap.size w W0 := by rw [← hW0]; exact (((((new2 w _ _).alloc (by simp; omega) _).alloc (by simp; omega) _).alloc (by simp; omega) _).alloc (by simp; omega) _)
  have bR : Boxed W0 w.heap.size 32 (.slice none 0 0) := by rw [← hW0]; exact (((((Boxed.new w _ _).alloc _).alloc _).alloc _).alloc _).alloc _
  have bE : Boxed W0 (w.heap.size + 1) 26 (.int .i64 0) := by
    rw [← hW0]
    have := Boxed.new (w.alloc (.cells #[.slice none 0 0] 32)) 26 (.int .i64 0)
    simp only [World.size_alloc] at this
    exact (((this.alloc _).alloc _).alloc _).alloc _
  have bL : Boxed W0 (w.heap.size + 2) 32 (.slice none 0 0) := by
    rw [← hW0]
    have := Boxed.new ((w.alloc (.cells #[.slice none 0 0] 32)).alloc (.cells #[.int .i64 0] 26)) 32 (.slice none 0 0)
    simp only [World.size_alloc] at this
    exact ((this.alloc _).alloc _).alloc _
  have b0 : Boxed W0 (w.heap.size + 3) 9 (.string (bs r)) := by
    rw [← hW0]
    have := Boxed.new (((w.alloc (.cells #[.slice none 0 0] 32)).alloc (.cells #[.int .i64 0] 26)).alloc (.cells #[.slice none 0 0] 32)) 9 (.string (bs r))
    simp only [World.size_alloc] at this
    exact (this.alloc _).alloc _
  have b1 : Boxed W0 (w.heap.size + 3 + 1) 9 (.string ⟨#[47]⟩) := by
    rw [← hW0]
    have := Boxed.new ((((w.alloc (.cells #[.slice none 0 0] 32)).alloc (.cells #[.int .i64 0] 26)).alloc (.cells #[.slice none 0 0] 32)).alloc (.cells #[.string (bs r)] 9)) 9 (.string ⟨#[47]⟩)
    simp only [World.size_alloc] at this
    exact this.alloc _
  have b2 : Boxed W0 (w.heap.size + 3 + 2) 3 (.int .i64 0) := by
    rw [← hW0]
    have := Boxed.new (((((w.alloc (.cells #[.slice none 0 0] 32)).alloc (.cells #[.int .i64 0] 26)).alloc (.cells #[.slice none 0 0] 32)).alloc (.cells #[.string (bs r)] 9)).alloc (.cells #[.string ⟨#[47]⟩] 9)) 3 (.int .i64 0)
    simp only [World.size_alloc] at this
    exact this
  rw [hW0]
  clear hW0
  have hm0 : Mid w [] W0 := ⟨by simp, ⟨_, bL, World.ownsRow_nil _ _ _ _⟩, bR, bE, hbW, by omega⟩
  obtain ⟨i0, hi, hz0, hz1, hz2⟩ := info_parts S5.info_str
  refine range_cell (b := w.heap.size + 3) rfl (by omega) (gf := 48) (lb := #[.pointer (some ⟨w.heap.size + 4, 0, none⟩), .pointer (some ⟨w.heap.size + 3, 0, none⟩), .pointer (some ⟨w.heap.size + 5, 0, none⟩)]) rfl trivial (enters_of Tryd.func48 (by kernel_rfl) rfl)
    (seq1_in _ (by omega) (w.heap.size + 3) r (by omega) W0 (by omega) b0 b1 b2) (by omega) (fun _ => rfl) (Mid w) (Wrong w) (fun pre A v h => h.set v) (fun pre A A' h ho => h.off ho (by omega)) (fun c pre A A' h ho => h.off ho (by omega)) hm0
    (fun x : List UInt8 => { tmps := #[.string (bs (47 :: r)), undef, .pointer (some ⟨w.heap.size, 0, none⟩), .pointer (some ⟨w.heap.size + 1, 0, none⟩), .pointer (some ⟨w.heap.size + 2, 0, none⟩), .string (bs x), .string (bs (47 :: r)), .bool true, .bool false, .string (bs (47 :: r)), .bool false, .string (bs (47 :: r)), .string (bs r),
      .func (.func 48) #[] #[.pointer (some ⟨w.heap.size + 4, 0, none⟩), .pointer (some ⟨w.heap.size + 3, 0, none⟩), .pointer (some ⟨w.heap.size + 5, 0, none⟩)], .string (bs x), undef, undef, undef, undef, undef, undef, undef, undef, undef, undef, undef, undef, undef, undef], defers := [] })
    ?assign ?body ?done ?stop
  case assign =>
    intro l x W K hK
    gi_wp2
    exact hK
  case body =>
    rintro l pre x W hm hok
    have hxl : x.length ≤ 140737488351232 := by
      have := pieces_mem (hok.subset (a := x) (by simp))
      omega
    have heW : Env W := HE.out.keep hm.2.2.2.2.1
    gi_wp2_with (fail)
    refine ⟨trivial, (CallsIn.inRound l (callsIn_wide.2 (seen_any x hxl W heW))).mono ?_⟩
    rintro e w1 ⟨rfl, hb1⟩
    have hWs : w.heap.size + 6 ≤ W.heap.size := hm.2.2.2.2.2
    have hm1 := hm.off (Off.of_below (B := W.heap.size) hb1) (by omega)
    have k1 : Keep3 (w.heap.size + 3) W w1 := Keep3.below hb1 (by omega)
    have f1 : KeepsFrom W0.heap.size W w1 := keeps_of_below hb1
    clear hm heW
    obtain ⟨hs, ⟨v, bL1, row⟩, bR1, bE1, hb, hsz1⟩ := hm1
    have cL := bL1.cell
    have fL := bL1.frozen
    have cR := bR1.cell
    have fR := bR1.frozen
    have cE := bE1.cell
    have fE := bE1.frozen
    cases hx : seenB x
    · gi_wp2
      refine ⟨f1.trans (((KeepsOthers.setCell _ _ _).trans (KeepsOthers.setCell _ _ _)).from _), rfl, ⟨pre, x, rfl, hx⟩, (bR1.set _).other (by omega) _, (bE1.other (by omega) _).set _, (hb.setCell (p := ⟨w.heap.size, 0, none⟩) (by simp) _).setCell (p := ⟨w.heap.size + 1, 0, none⟩) (by simp) _⟩
    · have hs2 : ∀ y ∈ pre ++ [x], seenB y = true := fun y hy => (List.mem_append.1 hy).elim (hs y) (fun e => by rw [List.mem_singleton.1 e]; exact hx)
      by_cases hp : pre.length ≤ 20
      · have ht : pre.take 21 = pre := List.take_of_length_le (by omega)
        have ht2 : (pre ++ [x]).take 21 = pre ++ [x] := List.take_of_length_le (by simp; omega)
        have hts : ts (pre ++ [x]) = ts pre ++ [Value.string (bs x)] := by simp [ts]
        rw [ht] at row
        obtain ⟨A, c, rfl, hrd, hln⟩ := Rd.of_own row
        clear hrd hln
        gi_wp2_with (gi_at_builtin; refine wpListIn_append_own _ rfl _ _ 32 rfl (w.heap.size + 6) 9 i0 (.string ByteArray.empty) 1 16 Tryd.underlying32 hi hz0 hz1 hz2 rfl (by decide) _ _ _ rfl (row.alloc _) ⟨w1.heap.size, 0, none⟩ 1 1 [.string (bs x)] rfl rfl (cell_one_new _ _ _) (by simp [Value.oneCell']) (by unfold maxLen; omega) (by omega) (by simp; omega) ?_; intro v' w2 hown' hgrow _; obtain ⟨g', cap', rfl⟩ := ownsRow_succ hown'; obtain ⟨hv1, hv2, hr2, hk2, hb2⟩ := bL1.appended (by decide) (own_base row (show w.heap.size + 2 ≤ w.heap.size + 6 by omega)) (by omega) (Nat.le_refl _) (own_base hown' (show w.heap.size + 2 ≤ w.heap.size + 6 by omega)) hgrow; have hc1 := hv1.cell; have hf1 := hv1.frozen)
        have hgrow2 : (w1.alloc (.cells #[.string (bs x)] 9)).grownBy w2 (Value.slice A pre.length c).ownBlock := hgrow
        refine ⟨f1.trans (hk2.from _), k1.trans (keep3_append hgrow2 row (by omega) (by omega) (by omega) _), hs2, ⟨_, hv2, ?_⟩, ?_, ?_, hb.trans (hb2.mono (by omega)), by have := hk2.size; omega⟩
        · rw [ht2, hts, List.length_append]
          exact ownsRow_setCell_other (a := ⟨w.heap.size + 2, 0, none⟩) hown' (hv1.not_row (by decide) hown').symm _
        · exact ((bR1.alloc _).kept hgrow2 (own_apart row (by omega))).other (by omega) _
        · exact ((bE1.alloc _).kept hgrow2 (own_apart row (by omega))).other (by omega) _
      · have ht2 : (pre ++ [x]).take 21 = pre.take 21 := take_full (by omega)
        have hl21 : (pre.take 21).length = 21 := by rw [List.length_take]; omega
        rw [hl21] at row
        obtain ⟨A, c, rfl, hrd, hln⟩ := Rd.of_own row
        clear hrd hln
        gi_wp2
        exact ⟨f1, k1, hs2, ⟨_, bL1, by rw [ht2, hl21]; exact row⟩, bR1, bE1, hb, hsz1⟩
  case done =>
    rintro D ys W hD hys ⟨hs, ⟨v, bL1, row⟩, bR1, bE1, hb, hsz1⟩ hK
    subst hys
    have hall : (pieces r).all seenB = true := List.all_eq_true.2 hs
    have cL := bL1.cell
    have fL := bL1.frozen
    have cR := bR1.cell
    have fR := bR1.frozen
    have cE := bE1.cell
    have fE := bE1.frozen
    have hDR : some w.heap.size ≠ some D := by simp; omega
    have hDE : some (w.heap.size + 1) ≠ some D := by simp; omega
    have hDB : w.heap.size ≤ D := by omega
    by_cases hp : (pieces r).length ≤ 20
    · have ht : (pieces r).take 21 = pieces r := List.take_of_length_le (by omega)
      rw [ht] at row
      have hsp := splitP_ok h0 hall hp
      rw [HSP.out] at hsp
      injection hsp with q1 q2
      clear HSP hall hs ht
      subst q1
      subst q2
      generalize pieces r = ys at *
      obtain ⟨A, c, rfl, hrd, hln⟩ := Rd.of_own row
      clear hrd hln
      have eR := (bR1.set (.slice A ys.length c)).other (show w.heap.size ≠ w.heap.size + 1 by omega) (.int .i64 0)
      have eE := (bE1.other (show w.heap.size + 1 ≠ w.heap.size by omega) (.slice A ys.length c)).set (.int .i64 0)
      have eO := ownsRow_setCell_other (a := ⟨w.heap.size + 1, 0, none⟩) (ownsRow_setCell_other (a := ⟨w.heap.size, 0, none⟩) row (own_apart row (b := w.heap.size) (by omega)).symm (.slice A ys.length c)) (own_apart row (b := w.heap.size + 1) (by omega)).symm (.int .i64 0)
      have eB := (hb.setCell (p := ⟨w.heap.size, 0, none⟩) (by simp) (.slice A ys.length c)).setCell (p := ⟨w.heap.size + 1, 0, none⟩) (by simp) (.int .i64 0)
      have eK := ((KeepsOthers.setCell W ⟨w.heap.size, 0, none⟩ (.slice A ys.length c)).trans (KeepsOthers.setCell _ ⟨w.heap.size + 1, 0, none⟩ (.int .i64 0))).same D _ hK rfl
      have ER := Lib.hid eR
      have EE := Lib.hid eE
      have EO := Lib.hid eO
      have EB := Lib.hid eB
      have EK := Lib.hid eK
      clear eR eE eO eB eK
      gi_wp2
      refine ⟨by simp, .inl ⟨_, _, rfl, run_takeDeferred EK.out, ?_⟩⟩
      have c1 := (ER.out.kept (grownBy_putObj' _ D (.deferred none)) hDR).cell
      have c2 := (EE.out.kept (grownBy_putObj' _ D (.deferred none)) hDE).cell
      obtain ⟨A', c', hv, hrd, _⟩ := Rd.of_own (ownsRow_putObj EO.out (.deferred none) EK.out rfl)
      injection hv with hv1 hv2 hv3
      subst hv1
      refine ⟨.tuple #[.slice A ys.length c, .int .i64 0], ?_, A, c, rfl, hrd, EB.out.trans (belowK_b (w := w) (Nat.le_refl _) _ D _ _ hDB EK.out rfl rfl), own_cap row⟩
      simp [results, Tryd.f14, go_sem, c1, c2]
    · have hl21 : ((pieces r).take 21).length = 21 := by rw [List.length_take]; omega
      rw [hl21] at row
      have hsp := splitP_long h0 hall (by omega)
      rw [HSP.out] at hsp
      injection hsp with q1 q2
      clear HSP hall hs
      subst q1
      subst q2
      obtain ⟨A, c, rfl, hrd, hln⟩ := Rd.of_own row
      clear hrd hln
      have eR := (bR1.set (.slice none 0 0)).other (show w.heap.size ≠ w.heap.size + 1 by omega) (.int .i64 2)
      have eE := (bE1.other (show w.heap.size + 1 ≠ w.heap.size by omega) (.slice none 0 0)).set (.int .i64 2)
      have eB := (hb.setCell (p := ⟨w.heap.size, 0, none⟩) (by simp) (.slice none 0 0)).setCell (p := ⟨w.heap.size + 1, 0, none⟩) (by simp) (.int .i64 2)
      have eK := ((KeepsOthers.setCell W ⟨w.heap.size, 0, none⟩ (.slice none 0 0)).trans (KeepsOthers.setCell _ ⟨w.heap.size + 1, 0, none⟩ (.int .i64 2))).same D _ hK rfl
      have ER := Lib.hid eR
      have EE := Lib.hid eE
      have EB := Lib.hid eB
      have EK := Lib.hid eK
      clear eR eE eB eK
      gi_wp2
      refine ⟨by simp, .inl ⟨_, _, rfl, run_takeDeferred EK.out, ?_⟩⟩
      have c1 := (ER.out.kept (grownBy_putObj' _ D (.deferred none)) hDR).cell
      have c2 := (EE.out.kept (grownBy_putObj' _ D (.deferred none)) hDE).cell
      refine ⟨.tuple #[.slice none 0 0, .int .i64 2], ?_, none, 0, rfl, .inl rfl, EB.out.trans (belowK_b (w := w) (Nat.le_refl _) _ D _ _ hDB EK.out rfl rfl), Nat.le_refl _⟩
      simp [results, Tryd.f14, go_sem, c1, c2]
  case stop =>
    rintro D cd pre W hD hpre ⟨rfl, ⟨p, y, rfl, hy⟩, bR1, bE1, hb⟩ hK
    have hall : (pieces r).all seenB = false := by
      rw [List.all_eq_false]
      exact ⟨y, hpre.subset (by simp), by rw [hy]; simp⟩
    have hsp := splitP_wrong h0 hall
    rw [HSP.out] at hsp
    injection hsp with q1 q2
    have hDR : some w.heap.size ≠ some D := by simp; omega
    have hDE : some (w.heap.size + 1) ≠ some D := by simp; omega
    clear HSP hall
    subst q1
    subst q2
    gi_wp2
    refine ⟨by simp, .inl ⟨_, _, rfl, run_takeDeferred hK, ?_⟩⟩
    have c1 := (bR1.kept (grownBy_putObj' W D (.deferred none)) hDR).cell
    have c2 := (bE1.kept (grownBy_putObj' W D (.deferred none)) hDE).cell
    refine ⟨.tuple #[.slice none 0 0, .int .i64 70], ?_, none, 0, rfl, .inl rfl, hb.trans (belowK_b (w := w) (Nat.le_refl _) _ D _ _ (by omega) hK rfl rfl), Nat.le_refl _⟩
    simp [results, Tryd.f14, go_sem, c1, c2]

theorem split_any (p : List UInt8) (hz : p.length ≤ 1000000) (w : World) (he : Env w) {l : List (List UInt8)} {x : Int} (hsp : splitP p = (l, x)) :
    Calls Tryd.prog 14 #[.string (bs p)] w (SplitE l x w) := by
  by_cases h1 : p = [47]
  · subst h1
    rw [splitP_one] at hsp
    injection hsp with q1 q2
    subst q1; subst q2
    exact split_root w
  · cases p with
    | nil =>
      rw [splitP_nil] at hsp
      injection hsp with q1 q2
      subst q1; subst q2
      exact split_no (by decide) (by simp) w
    | cons c r =>
      by_cases hc : c = 47
      · subst hc
        exact split_main (fun e => h1 (by rw [e])) hz w he hsp
      · rw [splitP_not hc] at hsp
        injection hsp with q1 q2
        subst q1; subst q2
        exact split_no (decide_eq_false (by simp; exact hc)) (by omega) w

end Go.Proofs.YthecofkkacieaaaDoor.P7
