/-
  Layer 8, walks of the program: all operations, a group, as bytes: Encode.
-/
import Derived.Test.YtphnimmhjnhajaaKW10e
import Derived.Test.YtphnimmhjnhajaaKW9l
namespace Go.Proofs.Ytphnimmhjnhajaa.W8
open Go.RowKit Go.PlainAid M8 V1
set_option linter.unusedVariables false

/-- Operations that may be put: of a kind that there is, and no longer than these. -/
def OpFit (o : Opn) : Prop := (o.kind = 0 ∨ o.kind = 1 ∨ o.kind = 2 ∨ o.kind = 3 ∨ o.kind = 4) ∧ o.name.length ≤ 1000000 ∧ o.text.length ≤ 1000000 ∧ o.dots.length ≤ 1000000 ∧ o.elems.length ≤ 1000000
theorem flat_le {α : Type} {e : α → List UInt8} {c : Nat} : ∀ (l : List α), (∀ x ∈ l, (e x).length ≤ c) → (l.flatMap e).length ≤ c * l.length := by
  intro l
  induction l with
  | nil => intro _; simp
  | cons a l ih =>
    intro h
    have h1 := h a (by simp)
    have h2 := ih (fun x hx => h x (by simp [hx]))
    rw [List.flatMap_cons, List.length_append, List.length_cons, Nat.mul_succ]
    omega
theorem opP_len {w : World} {x : OpR} (hx : OpAt w x) (hf : OpFit x.o) : (opP x.o).length ≤ 100000000 := by
  obtain ⟨hk, h1, h2, h3, h4⟩ := hf
  have e0 := numB_len hx.kindR.2
  have e1 := idP_len hx.nodeR
  have e2 := idP_len hx.parentR
  have e3 := bytesB_len9 h1
  have e4 : (flagP x.o.dir).length ≤ 1 := Nat.le_of_eq (flagP_len _)
  have e5 := numB_len (n := (x.o.dots.length : Int)) (by omega)
  have e6 := flat_le (e := stampP) (c := 18) x.o.dots (fun s hs => stampP_len (hx.dotsR s hs))
  have e7 := idP_len hx.afterR
  have e8 := idP_len hx.elemR
  have e9 := bytesB_len9 h2
  have e10 := numB_len (n := (x.o.elems.length : Int)) (by omega)
  have e11 := flat_le (e := idP) (c := 27) x.o.elems (fun s hs => idP_len (hx.elemsR s hs))
  unfold opP tailP
  split
  · simp only [List.length_append]; omega
  · split
    · simp only [List.length_append]; omega
    · split
      · simp only [List.length_append]; omega
      · split
        · simp only [List.length_append]; omega
        · simp only [List.length_append]; omega

set_option maxRecDepth 100000 in
set_option maxHeartbeats 8000000 in
theorem pops_any (xs : List OpR) (hn : xs.length ≤ 200) (A : Option Addr) (cp : Nat) (W0 : World) (hf : ∀ x ∈ xs, OpFit x.o) (hx : ∀ x ∈ xs, OpAt W0 x) (hr : Rd W0 A (xs.flatMap OpR.cells)) (w : World) (b : Nat) (hW : W0.heap.size ≤ b) (hbw : Below b W0 w) (T : TypeId) (hT : T ≠ 5) (l : List UInt8) (hp : Par w b T l) (hl : l.length ≤ 400000000000) :
    Calls Try.prog 23 #[.pointer (some ⟨b, 0, none⟩), .slice A xs.length cp, .func (.func 24) #[.pointer (some ⟨b, 0, none⟩)] #[]] w fun e w' => e = .returned (.tuple #[]) ∧ Par w' b T (l ++ (numB (xs.length : Int) ++ (xs.map OpR.o).flatMap opP)) ∧ Stp b w w' := by
  have HP := Lib.hid hp
  have HL := Lib.hid hl
  have HF := Lib.hid hf
  have HX := Lib.hid hx
  have HR := Lib.hid hr
  have HBW := Lib.hid hbw
  have HTT := Lib.hid hT
  have hlen : ∀ k, k ≤ xs.length → (((xs.take k).map OpR.o).flatMap opP).length ≤ 100000000 * k := by
    intro k hk
    have := flat_le (e := opP) (c := 100000000) ((xs.take k).map OpR.o) (fun o ho => by
      obtain ⟨x, hx1, rfl⟩ := List.mem_map.1 ho
      have hx2 := List.mem_of_mem_take hx1
      exact opP_len (HX.out x hx2) (HF.out x hx2))
    rw [List.length_map, List.length_take] at this
    have h2 : 100000000 * min k xs.length ≤ 100000000 * k := Nat.mul_le_mul_left _ (Nat.min_le_left _ _)
    omega
  have HLEN := Lib.hid hlen
  clear hp hl hf hx hr hbw hT hlen
  have hk1 : (xs.length : Int) ≤ 9223372036854775807 := by omega
  go_enter Try.func23, Try.ntmps23
  go_wp2_with fail
  refine (pnat_any (xs.length : Int) hk1 _ b T l HP.out (by have := HL.out; omega)).mono ?_
  rintro e w1 ⟨rfl, hp1, hs1⟩
  have R0 : Hid (Par w1 b T (l ++ numB (xs.length : Int) ++ ((xs.take 0).map OpR.o).flatMap opP) ∧ Stp b w w1) := by
    refine ⟨?_, hs1⟩
    simpa using hp1
  clear hp1 hs1 hk1
  go_wp2
  go_loopw [16] (fun v wr => ∃ k : Nat, k ≤ xs.length ∧ v = .int .i64 (k : Int) ∧ Par wr b T (l ++ numB (xs.length : Int) ++ ((xs.take k).map OpR.o).flatMap opP) ∧ Stp b w wr) (fun v _ => xs.length - (intOf v).toNat)
  case atStart => exact ⟨0, by omega, rfl, R0.out.1, R0.out.2⟩
  case round =>
    obtain ⟨k, hk, rfl, hpk, hsk⟩ := hrel
    by_cases hlt : k < xs.length
    · have hbk := HBW.out.trans hsk.below
      obtain ⟨q, off, rfl, hq, hcl⟩ := op_cells (HR.out.below hbk hW) hlt
      obtain ⟨x, hx⟩ : ∃ x, xs[k] = x := ⟨_, rfl⟩
      have hxat := HX.out _ (List.getElem_mem hlt)
      have hxf := HF.out _ (List.getElem_mem hlt)
      have HXE := Lib.hid hx
      rw [hx] at hcl hxat hxf
      have HXA := Lib.hid hxat
      have HXF := Lib.hid hxf
      have hra := Lib.hid (range_op hcl)
      have hnew := op_new wr x
      have hrb : Hid ((wr.alloc (.cells x.cells.toArray 44)).rangeAt wr.heap.size 0 x.cells) := range_op (by
        obtain ⟨d0, d1, d2, d3, d4, d5, d6, d7, d8, d9, d10, d11, d12, d13, d14, d15, d16, d17⟩ := hnew.2
        unfold OpCells
        simp only [Nat.zero_add]
        exact ⟨d0, d1, d2, d3, d4, d5, d6, d7, d8, d9, d10, d11, d12, d13, d14, d15, d16, d17⟩)
      have hk0 : (0 : Int) ≤ (k : Int) := by omega
      have hk1 : (k : Int) < (xs.length : Int) := by omega
      have hpl := hpk.lt
      have HPK := Lib.hid (hpk.keep (below_box (.cells x.cells.toArray 44)))
      have HSK := Lib.hid (hsk.alloc (.cells x.cells.toArray 44) hpl)
      have HBK := Lib.hid (hbk.trans (Below.mono (below_box (.cells x.cells.toArray 44)) (Nat.le_of_lt hpl)))
      have hll : Hid ((l ++ numB (xs.length : Int) ++ ((xs.take k).map OpR.o).flatMap opP).length ≤ 500000000000) := by
        show _ ≤ _
        have h1 := HL.out
        have h2 := HLEN.out k hk
        have h3 := numB_len (n := (xs.length : Int)) (by omega)
        simp only [List.length_append]
        omega
      clear hx hcl hxat hxf hnew hpk hsk hbk R0 HP
      go_wp2_with (first | (refine wpList_load_mid rfl 44 (.tmp 18) rfl q (off + k * 18) rfl x.cells _ hra.out Try.underlying44 rfl (zero_of_info info_op).2 ?_) | (refine wpList_store_fresh rfl 44 (.tmp 7) (.tmp 19) rfl _ x.cells.toArray rfl rfl (zero_of_info info_op).2 rfl (cells_one x) ?_) | (refine wpList_load_mid rfl 44 (.tmp 7) rfl wr.heap.size 0 rfl x.cells _ hrb.out Try.underlying44 rfl (zero_of_info info_op).2 ?_))
      refine (pop_any x HXF.out.1 HXF.out.2.1 HXF.out.2.2.1 HXF.out.2.2.2.1 HXF.out.2.2.2.2 W0 HXA.out _ b hW HBK.out T HTT.out _ HPK.out hll.out).mono ?_
      rintro e w2 ⟨rfl, hp2, hs2⟩
      have HP2 : Hid (Par w2 b T (l ++ numB (xs.length : Int) ++ ((xs.take (k + 1)).map OpR.o).flatMap opP)) := by
        show Par _ _ _ _
        rw [List.take_succ_eq_append_getElem hlt, List.map_append, List.flatMap_append, HXE.out]
        simp only [List.map_cons, List.map_nil, List.flatMap_cons, List.flatMap_nil, List.append_nil]
        rw [← List.append_assoc]
        exact hp2
      have HS2 := Lib.hid (HSK.out.trans hs2)
      clear hp2 hs2 hra hrb
      go_wp2
      go_roundw
      case rel => exact ⟨k + 1, by omega, by go_num, HP2.out, HS2.out⟩
      case measure => simp [intOf]; omega
    · obtain rfl : k = xs.length := by omega
      have HPF : Hid (Par wr b T (l ++ (numB (xs.length : Int) ++ (xs.map OpR.o).flatMap opP))) := by
        show Par _ _ _ _
        rw [List.take_length] at hpk
        rw [← List.append_assoc]
        exact hpk
      have HSF := Lib.hid hsk
      clear hpk hsk
      go_wp2
      refine bodyPost_end (results_none rfl _ _ _) rfl ?_
      exact ⟨rfl, HPF.out, HSF.out⟩

/-- A group's bytes, as the program puts them. -/
def grpP (g : Grp) : List UInt8 := stampP (g.t, g.r) ++ (numB g.n ++ ((natsR g.deps).1 ++ (stampP (g.ut, g.ur) ++ (numB (g.ops.length : Int) ++ g.ops.flatMap opP))))
theorem numE {n : Int} (h : natD n) : numB n = natE n := by
  unfold numB natR natE
  rw [if_neg (by have := h.1; omega)]
theorem stampE_of {s : Int × Int} (h : stampD s) : stampP s = stampE s := by
  unfold stampP stampE
  rw [numE h.1, numE h.2]
theorem idE_of {x : Id3} (h : idD x) : idP x = idE x := by
  unfold idP stampP idE
  rw [numE h.1, numE h.2.1, numE h.2.2, List.append_assoc]
theorem flagE_of (b : Bool) : flagP b = flagE b := by
  unfold flagP flagE
  cases b <;> exact numE (by unfold natD; simp)
theorem flat_of {α : Type} {e f : α → List UInt8} : ∀ (l : List α), (∀ x ∈ l, e x = f x) → l.flatMap e = flatE f l := by
  intro l
  induction l with
  | nil => intro _; rfl
  | cons a l ih =>
    intro h
    unfold flatE
    rw [List.flatMap_cons, List.flatMap_cons, h a (by simp)]
    congr 1
    exact ih (fun x hx => h x (by simp [hx]))
theorem len_nat {n : Nat} (h : (n : Int) ≤ 9223372036854775807) : natD (n : Int) := ⟨by omega, h⟩
theorem opE_of {o : Opn} (h : opD o) : opP o = opE o := by
  obtain ⟨hn, ht⟩ := h
  have hk : natD o.kind := by
    rcases ht with h | h | h | h | h <;> (rw [h.1]; unfold natD; simp)
  unfold opP opE
  rw [numE hk, idE_of hn]
  congr 1
  unfold tailP tailE
  rcases ht with h | h | h | h | h
  · simp only [h.1, if_true]
    rw [idE_of h.2.1, flagE_of, List.append_assoc]
  · simp only [h.1]
    rw [idE_of h.2.1]
    simp
  · simp only [h.1]
    unfold listE
    rw [numE (len_nat h.2.1.1), flat_of o.dots (fun s hs => stampE_of (h.2.1.2 s hs))]
    simp
  · simp only [h.1]
    rw [idE_of h.2.1, idE_of h.2.2.1]
    simp
  · simp only [h.1]
    unfold listE
    rw [numE (len_nat h.2.1.1), flat_of o.elems (fun s hs => idE_of (h.2.1.2 s hs))]
    simp
theorem natsE_of {l : List Int} (h : ∀ n ∈ l, natD n) : (natsR l).1 = natsE l := by
  unfold natsR natsE
  rw [if_pos (by rw [List.all_eq_true]; exact fun z hz => decide_eq_true (h z hz).1)]
theorem grpE_of {g : Grp} (h : grpD g) : grpP g = spell g := by
  obtain ⟨h1, h2, ⟨_, h3⟩, h4, h5, h6⟩ := h
  unfold grpP spell listE
  rw [stampE_of h1, numE h2, natsE_of h3, stampE_of h4, numE (len_nat h5), flat_of g.ops (fun o ho => opE_of (h6 o ho))]

set_option maxRecDepth 100000 in
set_option maxHeartbeats 8000000 in
theorem pgroup_any (G : GrpR) (W0 : World) (hG : GrpAt W0 G) (hd : G.deps.length ≤ 1000000) (hn : G.xs.length ≤ 200) (hf : ∀ x ∈ G.xs, OpFit x.o) (w : World) (b : Nat) (hW : W0.heap.size ≤ b) (hbw : Below b W0 w) (T : TypeId) (hT : T ≠ 5) (hp : Par w b T []) :
    Calls Try.prog 14 #[.pointer (some ⟨b, 0, none⟩), .agg G.cells.toArray] w fun e w' => e = .returned (.tuple #[]) ∧ Par w' b T (grpP G.g) ∧ Stp b w w' := by
  have hbl := hp.lt
  have HG' := Lib.hid hG
  have HF := Lib.hid hf
  have HBW := Lib.hid hbw
  have HTT := Lib.hid hT
  have HDL := Lib.hid hd
  have HNL := Lib.hid hn
  have HP0 := Lib.hid (hp.keep (below_box (.cells G.cells.toArray 27)))
  have HS0 := Lib.hid ((Stp.refl b w).alloc (.cells G.cells.toArray 27) hbl)
  have hbx : (w.alloc (.cells G.cells.toArray 27)).heap[w.heap.size]? = some (.cells G.cells.toArray 27 (0, 0)) := heap_alloc_new w _
  have HB0 := Lib.hid hbx
  obtain ⟨W1, hW1⟩ : ∃ W1, w.alloc (.cells G.cells.toArray 27) = W1 := ⟨_, rfl⟩
  have hszW : W1.heap.size = w.heap.size + 1 := by rw [← hW1]; simp
  rw [hW1] at HP0 HS0 HB0
  obtain ⟨d0, d1, d2, d3, d4, d5, d6⟩ := grp_box (G := G) HB0.out
  have hgr : 27 ≠ 5 := by decide
  have HGR := Lib.hid hgr
  clear hG hf hbw hT hd hn hp hbx hgr
  go_enter Try.func14, Try.ntmps14
  go_wp2_with fail
  refine (pstamp_any (G.t, G.r) ⟨HG'.out.tR, HG'.out.rR⟩ _ b T [] HP0.out (by simp)).mono ?_
  rintro e w1 ⟨rfl, hp1, hs1⟩
  have hpl1 := hp1.lt
  have HB1 := Lib.hid (hs1.box HP0.out HB0.out HGR.out (by omega))
  have HP1 := Lib.hid (hp1.keep (bdrew w1))
  have HS1 := Lib.hid ((HS0.out.trans hs1).drew hpl1)
  clear hp1 hs1 d0 d1 d2 d3 d4 d5 d6 hW1 hszW HP0
  obtain ⟨d0, d1, d2, d3, d4, d5, d6⟩ := grp_box (G := G) HB1.out
  go_wp2
  refine S5.still_tail 5 S5.mixed (by kernel_rfl) ?_
  simp only [List.take_succ_cons, List.take_zero, List.drop_succ_cons, List.drop_zero]
  repeat still_step
  refine wpStill_nil ?_
  go_wp2_with fail
  refine (pnat_any G.n HG'.out.nR.2 _ b T _ HP1.out (by have := stampP_len (s := (G.t, G.r)) ⟨HG'.out.tR, HG'.out.rR⟩; simp only [List.length_append, List.length_nil]; omega)).mono ?_
  rintro e w2 ⟨rfl, hp2, hs2⟩
  have hpl2 := hp2.lt
  have HB2 := Lib.hid (hs2.box HP1.out (show w1.drew.heap[w.heap.size]? = _ from HB1.out) HGR.out (by omega))
  have HP2 := Lib.hid (hp2.keep (bdrew w2))
  have HS2 := Lib.hid ((HS1.out.trans hs2).drew hpl2)
  clear hp2 hs2 d0 d1 d2 d3 d4 d5 d6 HP1
  obtain ⟨d0, d1, d2, d3, d4, d5, d6⟩ := grp_box (G := G) HB2.out
  go_wp2
  refine S5.still_tail 5 S5.mixed (by kernel_rfl) ?_
  simp only [List.take_succ_cons, List.take_zero, List.drop_succ_cons, List.drop_zero]
  repeat still_step
  refine wpStill_nil ?_
  go_wp2_with fail
  refine (pnats_any G.deps G.dA G.deps.length G.dc rfl HDL.out (fun z hz => (HG'.out.depsR z hz).2) _ (HG'.out.deps.below (HBW.out.trans HS2.out.below) hW) b T _ HP2.out (by have := stampP_len (s := (G.t, G.r)) ⟨HG'.out.tR, HG'.out.rR⟩; have := numB_len HG'.out.nR.2; simp only [List.length_append, List.length_nil]; omega)).mono ?_
  rintro e w3 ⟨rfl, hp3, hs3⟩
  have HB3 := Lib.hid (hs3.box HP2.out (show w2.drew.heap[w.heap.size]? = _ from HB2.out) HGR.out (by omega))
  have HP3 := Lib.hid hp3
  have HS3 := Lib.hid (HS2.out.trans hs3)
  have hnl := natsR_len9 G.deps HDL.out (fun z hz => (HG'.out.depsR z hz).2)
  have HNL2 := Lib.hid hnl
  clear hp3 hs3 d0 d1 d2 d3 d4 d5 d6 HP2 hnl
  obtain ⟨d0, d1, d2, d3, d4, d5, d6⟩ := grp_box (G := G) HB3.out
  go_wp2_with fail
  refine (pstamp_any (G.ut, G.ur) ⟨HG'.out.utR, HG'.out.urR⟩ _ b T _ HP3.out (by have := stampP_len (s := (G.t, G.r)) ⟨HG'.out.tR, HG'.out.rR⟩; have := numB_len HG'.out.nR.2; have := HNL2.out; simp only [List.length_append, List.length_nil]; omega)).mono ?_
  rintro e w4 ⟨rfl, hp4, hs4⟩
  have HB4 := Lib.hid (hs4.box HP3.out HB3.out HGR.out (by omega))
  have HP4 := Lib.hid hp4
  have HS4 := Lib.hid (HS3.out.trans hs4)
  clear hp4 hs4 d0 d1 d2 d3 d4 d5 d6 HP3
  obtain ⟨d0, d1, d2, d3, d4, d5, d6⟩ := grp_box (G := G) HB4.out
  go_wp2_with fail
  refine (pops_any G.xs HNL.out G.oA G.oc W0 HF.out HG'.out.each HG'.out.ops _ b hW (HBW.out.trans HS4.out.below) T HTT.out _ HP4.out (by have := stampP_len (s := (G.t, G.r)) ⟨HG'.out.tR, HG'.out.rR⟩; have := stampP_len (s := (G.ut, G.ur)) ⟨HG'.out.utR, HG'.out.urR⟩; have := numB_len HG'.out.nR.2; have := HNL2.out; simp only [List.length_append, List.length_nil]; omega)).mono ?_
  rintro e w5 ⟨rfl, hp5, hs5⟩
  have HPF : Hid (Par w5 b T (grpP G.g)) := by
    show Par _ _ _ _
    have he : grpP G.g = [] ++ stampP (G.t, G.r) ++ numB G.n ++ (natsR G.deps).1 ++ stampP (G.ut, G.ur) ++ (numB (G.xs.length : Int) ++ (G.xs.map OpR.o).flatMap opP) := by
      unfold grpP
      simp [GrpR.g, List.append_assoc]
    rw [he]
    exact hp5
  have HSF := Lib.hid (HS4.out.trans hs5)
  clear hp5 hs5 d0 d1 d2 d3 d4 d5 d6 HP4
  go_wp2
  refine bodyPost_end (results_none rfl _ _ _) rfl ?_
  exact ⟨rfl, HPF.out, HSF.out⟩

end Go.Proofs.Ytphnimmhjnhajaa.W8

