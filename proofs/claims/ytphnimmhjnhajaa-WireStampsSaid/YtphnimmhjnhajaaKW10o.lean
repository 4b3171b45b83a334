/-
  Layer 8, walks of the program: Decode.
-/
import Derived.Test.YtphnimmhjnhajaaKW10n
namespace Go.Proofs.Ytphnimmhjnhajaa.W8
open Go.RowKit Go.PlainAid M8 V1
set_option linter.unusedVariables false

theorem own_at {w : World} {B : Nat} {e : TypeId} {c : Nat} {A : Option Addr} {n m cp : Nat} {xs : List Value} (h : w.ownsRow B e c (.slice A m cp) n xs) : Rd w A xs ∧ n ≤ cp ∧ cp ≤ 9223372036854775807 := by
  rcases h.2 with ⟨h1, h2⟩ | ⟨g, cap, cur, h1, _, hh, h3, h4, h5, h6⟩
  · injection h1 with h1 _ h3
    have hl := h.1
    rw [h2, Nat.zero_mul] at hl
    exact ⟨.inl (List.eq_nil_of_length_eq_zero hl), by omega, by omega⟩
  · injection h1 with h1 _ h7
    subst h1 h7
    refine ⟨.inr ⟨g, 0, rfl, (Array.getElem?_eq_some_iff.1 hh).1, fun j hj => ?_⟩, h3, by rw [maxLen_is] at h4; exact h4⟩
    rw [Nat.zero_add, cell_of_row w g j cur e (0, 0) hh]
    have h8 : (cur.toList.take (n * c))[j]? = some xs[j] := by rw [h6]; exact List.getElem?_eq_getElem hj
    rw [List.getElem?_take] at h8
    split at h8
    · simpa using h8
    · cases h8
theorem natD_in {n : Int} (h : natD n) : in64 n := by unfold natD at h; unfold in64; omega
theorem stampD_in {s : Int × Int} (h : stampD s) : stampR s := ⟨natD_in h.1, natD_in h.2⟩
theorem idD_in {x : Id3} (h : idD x) : idR x := ⟨natD_in h.1, natD_in h.2.1, natD_in h.2.2⟩
theorem OpGood.at {w : World} {B : Nat} {x : OpR} (h : OpGood w B x) : OpAt w x := by
  obtain ⟨d1, d2, d3⟩ := own_at h.dots
  obtain ⟨e1, e2, e3⟩ := own_at h.elems
  exact ⟨d1, e1, ⟨d2, d3⟩, ⟨e2, e3⟩, natD_in h.kindD, idD_in h.nodeD, idD_in h.parentD, idD_in h.afterD, idD_in h.elemD, fun s hs => stampD_in (h.dotsD s hs), fun s hs => idD_in (h.elemsD s hs), Nat.le_trans h.nameL (by omega), Nat.le_trans h.textL (by omega)⟩
theorem GrpGood.at {w : World} {B : Nat} {G : GrpR} (h : GrpGood w B G) : GrpAt w G := by
  obtain ⟨d1, d2, d3⟩ := own_at h.deps
  obtain ⟨e1, e2, e3⟩ := own_at h.ops
  exact ⟨d1, e1, fun x hx => (h.each x hx).at, ⟨d2, d3⟩, ⟨e2, e3⟩, natD_in h.stD.1, natD_in h.stD.2, natD_in h.nD, natD_in h.utD.1, natD_in h.utD.2, h.depsR⟩
theorem GrpGood.fit {w : World} {B : Nat} {G : GrpR} (h : GrpGood w B G) : Fit G := ⟨h.depsL, fun _ x hx => ⟨(h.each x hx).nameL, (h.each x hx).textL⟩⟩
theorem GrpGood.below {w w' : World} {B : Nat} {G : GrpR} (h : GrpGood w B G) (hb : Below w.heap.size w w') : GrpGood w' B G :=
  { h with deps := own_below h.deps hb, ops := own_below h.ops hb, each := fun x hx => (h.each x hx).below hb }
def zeroG : GrpR := ⟨0, 0, 0, [], 0, 0, [], none, 0, none, 0⟩
theorem zeroG_at (w : World) : GrpAt w zeroG := by
  refine ⟨.inl rfl, .inl rfl, ?_, ⟨Nat.le_refl _, by decide⟩, ⟨Nat.le_refl _, by decide⟩, ?_, ?_, ?_, ?_, ?_, ?_⟩
  · intro x hx; cases hx
  all_goals first | (intro z hz; cases hz) | (constructor <;> decide)
theorem zeroG_fit : Fit zeroG := ⟨by decide, fun _ x hx => by cases hx⟩
/-- What Decode tells. -/
def DecE (s : List UInt8) (w : World) (e : Ending) (w' : World) : Prop :=
  ∃ (G : GrpR) (er : Int), e = .returned (.tuple #[.agg G.cells.toArray, .int .i64 er]) ∧ GrpAt w' G ∧ Fit G ∧ Below w.heap.size w w' ∧ ((er = 0 ∧ M8.decode s = some G.g) ∨ (er = 80 ∧ M8.decode s = none ∧ G = zeroG))
theorem results_row2 {fn : Func} {t u : Tmp} {T : TypeId} (h : fn.results = #[.cell t T, .tmp u]) (tmps : Array Value) (P : Program) (w : World) (b o : Nat) (cs : List Value) (v : Value) (d : TypeDesc) (hp : tmps.getD t undef = .pointer (some ⟨b, o, none⟩)) (hv : tmps.getD u undef = v) (hc : w.rangeAt b o cs)
    (hu : P.underlying T = some d) (hd : d.isRow = true) (hi : (P.info? T).map (·.size) = some cs.length) : (results fn tmps).run P w = .ok (.tuple #[.agg cs.toArray, v]) w := by
  have h1 := run_loadVar_mid (P := P) w b o T cs d hc hu hd hi
  rw [Array.getD_eq_getD_getElem?] at hp hv
  simp [results, h, hp, hv, h1, asAddr]
theorem dec_bad {r : Nat} {s : List UInt8} {w W5 : World} (ho : Only r w W5) (hr : w.heap.size ≤ r) (hd : M8.decode s = none) : DecE s w (.returned (.tuple #[.agg zeroG.cells.toArray, .int .i64 80])) (W5.setCells w.heap.size 0 zeroG.cells) :=
  ⟨zeroG, 80, rfl, zeroG_at _, zeroG_fit, (ho.plus (Only.sets zeroG.cells 0 W5) (Nat.le_refl _)).below hr, .inr ⟨rfl, hd, rfl⟩⟩
theorem dec_good {r : Nat} {s : List UInt8} {w W5 : World} {B : Nat} {G : GrpR} (h0 : W5.heap[w.heap.size]? = some (.cells noGrp.toArray 27 (0, 0))) (hg : GrpGood W5 B G) (ho : Only r w W5) (hr : w.heap.size ≤ r) (hd : M8.decode s = some G.g) : DecE s w (.returned (.tuple #[.agg G.cells.toArray, .int .i64 0])) (W5.setCells w.heap.size 0 G.cells) :=
  have h1 := Only.sets (b := w.heap.size) G.cells 0 W5
  ⟨G, 0, rfl, (hg.other h1 h0).at, hg.fit, (ho.plus h1 (Nat.le_refl _)).below hr, .inl ⟨rfl, hd⟩⟩

set_option maxRecDepth 100000 in
set_option maxHeartbeats 16000000 in
theorem dec_any (s : List UInt8) (hz : s.length ≤ 1000000) (w : World) : Calls Try.prog 9 #[.string (bs s)] w (DecE s w) := by
  have HZ := Lib.hid hz
  have hB0 := heap_alloc_new w (.cells noGrp.toArray 27)
  have hO0 : Only w.heap.size w (w.alloc (.cells noGrp.toArray 27)) := (Only.refl _ w).alloc _
  have hs0 : (w.alloc (.cells noGrp.toArray 27)).heap.size = w.heap.size + 1 := by simp
  obtain ⟨W0, hW0⟩ : ∃ W0, w.alloc (.cells noGrp.toArray 27) = W0 := ⟨_, rfl⟩
  rw [hW0] at hB0 hO0 hs0
  have hR1 : Rdr (W0.alloc (.cells #[.string (bs s), .bool false] 56)) W0.heap.size s false := heap_alloc_new W0 _
  have hB1 := (Below.heap_alloc W0 (.cells #[.string (bs s), .bool false] 56) w.heap.size (by omega)).trans hB0
  have hO1 : Only W0.heap.size w (W0.alloc (.cells #[.string (bs s), .bool false] 56)) := ⟨hO0.os, hO0.tape, hO0.output, by simp; omega, fun c h1 h2 => (Below.heap_alloc W0 _ c (by omega)).trans (hO0.kept c (by omega) h2)⟩
  have hle : w.heap.size ≤ W0.heap.size := by omega
  have hne : w.heap.size ≠ W0.heap.size := by omega
  obtain ⟨r, hr⟩ : ∃ r, W0.heap.size = r := ⟨_, rfl⟩
  obtain ⟨W1, hW1⟩ : ∃ W1, W0.alloc (.cells #[.string (bs s), .bool false] 56) = W1 := ⟨_, rfl⟩
  rw [hr] at hle hne
  rw [hr, hW1] at hR1 hO1
  rw [hW1] at hB1
  have HR1 := Lib.hid hR1
  have HB1 := Lib.hid hB1
  have HO1 := Lib.hid hO1
  have HLE := Lib.hid hle
  have HNE := Lib.hid hne
  clear hB0 hO0 hs0 hR1 hB1 hO1 hle hne hz
  go_enter Try.func9, Try.ntmps9
  have hWz : w.alloc (.cells #[.int .i64 0, .int .i64 0, .int .i64 0, .slice none 0 0, .int .i64 0, .int .i64 0, .slice none 0 0] 27) = W0 := hW0
  clear hW0
  go_wp2_with fail
  refine (rgrp_any r s false HZ.out _ HR1.out).mono ?_
  rintro e w2 ⟨G, s', b', rfl, hg2, hr2, hp2, ho2⟩
  have HP2 := Lib.hid (rp_dec hp2)
  have hO2 := HO1.out.trans ho2
  have hB2 := ho2.box HB1.out HNE.out
  have hR3 := hr2.keep (below_box (.cells G.cells.toArray 27))
  have hB3 := (Below.heap_alloc w2 (.cells G.cells.toArray 27) w.heap.size (Array.getElem?_eq_some_iff.1 hB2).1).trans hB2
  have hO3 := hO2.alloc (.cells G.cells.toArray 27)
  have hG3 := hg2.below (below_box (.cells G.cells.toArray 27))
  have hN3 := grp_box (G := G) (heap_alloc_new w2 (.cells G.cells.toArray 27))
  have hS3 : w2.heap.size < (w2.alloc (.cells G.cells.toArray 27)).heap.size := by simp
  obtain ⟨W3, hW3⟩ : ∃ W3, w2.alloc (.cells G.cells.toArray 27) = W3 := ⟨_, rfl⟩
  rw [hW3] at hR3 hB3 hO3 hG3 hN3 hS3
  obtain ⟨c0, c1⟩ := hR3.cells
  have HB3 := Lib.hid hB3
  have HO3 := Lib.hid hO3
  have HG3 := Lib.hid hG3
  have HN3 := Lib.hid hN3
  have HS3 := Lib.hid hS3
  have HW3 := Lib.hid hW3
  clear hg2 hr2 hp2 ho2 hO2 hB2 hR3 hB3 hO3 hG3 hN3 hS3 hW3 hW1 hr hWz HR1 HB1 HO1
  cases b' with
  | true =>
    have hd : M8.decode s = none := by rw [HP2.out]; rfl
    have HD := Lib.hid hd
    clear hd c0
    have hend := dec_bad HO3.out HLE.out HD.out
    have hth := there_block HB3.out
    rw [nogrp_size zeroG] at hth
    have hrg := World.rangeAt_setCells_same W3 w.heap.size 0 zeroG.cells hth
    obtain ⟨W6, hW6⟩ : ∃ W6, W3.setCells w.heap.size 0 zeroG.cells = W6 := ⟨_, rfl⟩
    rw [hW6] at hend hrg
    have HEND := Lib.hid hend
    have HRG := Lib.hid hrg
    have HW6 := Lib.hid hW6
    clear hend hrg hW6 hth
    go_wp2_with (first | ((with_reducible refine wpList_store_fresh ?_ 27 (.tmp 5) (.tmp 10) ?_ _ G.cells.toArray ?_ ?_ ?_ ?_ (gcells_one G) ?_); exact rfl; exact rfl; exact rfl; exact rfl; exact (zero_of_info info_grp).2; exact rfl; rw [HW3.out]) | ((with_reducible refine st_grp ?_ (.tmp 2) (.tmp 27) ?_ w.heap.size zeroG ?_ ?_ HB3.out ?_); exact rfl; exact rfl; exact rfl; exact rfl; rw [HW6.out]))
    exact bodyPost_ret (results_row2 (t := 2) (u := 3) (T := 27) rfl _ _ _ w.heap.size 0 zeroG.cells (.int .i64 80) _ rfl rfl HRG.out Try.underlying27 rfl (zero_of_info info_grp).2) rfl HEND.out
  | false =>
    by_cases hs : s' = []
    rotate_left
    · have hd : M8.decode s = none := by rw [HP2.out, if_neg (fun h => hs h.2.1)]
      have f1 : ((bs s').toList == []) = false := by rw [empty_list]; exact decide_eq_false hs
      have HD := Lib.hid hd
      clear hd hs
      have hend := dec_bad HO3.out HLE.out HD.out
      have hth := there_block HB3.out
      rw [nogrp_size zeroG] at hth
      have hrg := World.rangeAt_setCells_same W3 w.heap.size 0 zeroG.cells hth
      obtain ⟨W6, hW6⟩ : ∃ W6, W3.setCells w.heap.size 0 zeroG.cells = W6 := ⟨_, rfl⟩
      rw [hW6] at hend hrg
      have HEND := Lib.hid hend
      have HRG := Lib.hid hrg
      have HW6 := Lib.hid hW6
      clear hend hrg hW6 hth
      go_wp2_with (first | ((with_reducible refine wpList_store_fresh ?_ 27 (.tmp 5) (.tmp 10) ?_ _ G.cells.toArray ?_ ?_ ?_ ?_ (gcells_one G) ?_); exact rfl; exact rfl; exact rfl; exact rfl; exact (zero_of_info info_grp).2; exact rfl; rw [HW3.out]) | ((with_reducible refine st_grp ?_ (.tmp 2) (.tmp 27) ?_ w.heap.size zeroG ?_ ?_ HB3.out ?_); exact rfl; exact rfl; exact rfl; exact rfl; rw [HW6.out]))
      exact bodyPost_ret (results_row2 (t := 2) (u := 3) (T := 27) rfl _ _ _ w.heap.size 0 zeroG.cells (.int .i64 80) _ rfl rfl HRG.out Try.underlying27 rfl (zero_of_info info_grp).2) rfl HEND.out
    have f1 : ((bs s').toList == []) = true := by rw [empty_list]; exact decide_eq_true hs
    have HC : Hid (∀ w, GrpAt w G → Calls Try.prog 11 #[.agg #[.int .i64 G.t, .int .i64 G.r, .int .i64 G.n, .slice G.dA G.deps.length G.dc, .int .i64 G.ut, .int .i64 G.ur, .slice G.oA G.xs.length G.oc]] w fun e w' => e = .returned (.int .i64 (if check G.g = true then 0 else 80)) ∧ Below w.heap.size w w') := fun w h => check_any G w h (by have := HG3.out.depsL; omega) (fun hl x hx => by have := (HG3.out.each x hx).textL; omega)
    have HAT := Lib.hid HG3.out.at
    obtain ⟨d0, d1, d2, d3, d4, d5, d6⟩ := HN3.out
    cases hc : check G.g with
    | false =>
      have hd : M8.decode s = none := by rw [HP2.out, if_neg (fun h => by rw [hc] at h; cases h.2.2)]
      have HD := Lib.hid hd
      rw [hc] at HC
      clear hd hs hc
      go_wp2_with ((with_reducible refine wpList_store_fresh ?_ 27 (.tmp 5) (.tmp 10) ?_ _ G.cells.toArray ?_ ?_ ?_ ?_ (gcells_one G) ?_); exact rfl; exact rfl; exact rfl; exact rfl; exact (zero_of_info info_grp).2; exact rfl; rw [HW3.out])
      refine (HC.out _ HAT.out).mono ?_
      rintro e w4 ⟨rfl, hb4⟩
      have hB4 := (hb4.block w.heap.size (Array.getElem?_eq_some_iff.1 HB3.out).1).trans HB3.out
      have hO4 := HO3.out.trans (Only.of hb4)
      clear hb4 HB3 HO3
      have HB3 := Lib.hid hB4
      have HO3 := Lib.hid hO4
      clear hB4 hO4 c0 c1 d0 d1 d2 d3 d4 d5 d6
      have hend := dec_bad HO3.out HLE.out HD.out
      have hth := there_block HB3.out
      rw [nogrp_size zeroG] at hth
      have hrg := World.rangeAt_setCells_same w4 w.heap.size 0 zeroG.cells hth
      obtain ⟨W6, hW6⟩ : ∃ W6, w4.setCells w.heap.size 0 zeroG.cells = W6 := ⟨_, rfl⟩
      rw [hW6] at hend hrg
      have HEND := Lib.hid hend
      have HRG := Lib.hid hrg
      have HW6 := Lib.hid hW6
      clear hend hrg hW6 hth
      go_wp2_with ((with_reducible refine st_grp ?_ (.tmp 2) (.tmp 27) ?_ w.heap.size zeroG ?_ ?_ HB3.out ?_); exact rfl; exact rfl; exact rfl; exact rfl; rw [HW6.out])
      exact bodyPost_ret (results_row2 (t := 2) (u := 3) (T := 27) rfl _ _ _ w.heap.size 0 zeroG.cells (.int .i64 80) _ rfl rfl HRG.out Try.underlying27 rfl (zero_of_info info_grp).2) rfl HEND.out
    | true =>
      have hd : M8.decode s = some G.g := by rw [HP2.out, if_pos ⟨rfl, hs, hc⟩]
      have HD := Lib.hid hd
      rw [hc] at HC
      clear hd hs hc
      go_wp2_with ((with_reducible refine wpList_store_fresh ?_ 27 (.tmp 5) (.tmp 10) ?_ _ G.cells.toArray ?_ ?_ ?_ ?_ (gcells_one G) ?_); exact rfl; exact rfl; exact rfl; exact rfl; exact (zero_of_info info_grp).2; exact rfl; rw [HW3.out])
      refine (HC.out _ HAT.out).mono ?_
      rintro e w4 ⟨rfl, hb4⟩
      have hB4 := (hb4.block w.heap.size (Array.getElem?_eq_some_iff.1 HB3.out).1).trans HB3.out
      have hO4 := HO3.out.trans (Only.of hb4)
      have hG4 := HG3.out.below hb4
      have hN4 := HN3.out.keep hb4 HS3.out
      obtain ⟨d0, d1, d2, d3, d4, d5, d6⟩ := hN4
      have hend := dec_good hB4 hG4 hO4 HLE.out HD.out
      have hth := there_block hB4
      rw [nogrp_size G] at hth
      have hrg := World.rangeAt_setCells_same w4 w.heap.size 0 G.cells hth
      obtain ⟨W6, hW6⟩ : ∃ W6, w4.setCells w.heap.size 0 G.cells = W6 := ⟨_, rfl⟩
      rw [hW6] at hend hrg
      have HEND := Lib.hid hend
      have HRG := Lib.hid hrg
      have HW6 := Lib.hid hW6
      have HB4 := Lib.hid hB4
      clear hend hrg hW6 hth hb4 hB4 hO4 hG4 c0 c1
      go_wp2_with ((with_reducible refine st_grp ?_ (.tmp 2) (.tmp 28) ?_ w.heap.size G ?_ ?_ HB4.out ?_); exact rfl; exact rfl; exact rfl; exact rfl; rw [HW6.out])
      exact bodyPost_ret (results_row2 (t := 2) (u := 3) (T := 27) rfl _ _ _ w.heap.size 0 G.cells (.int .i64 0) _ rfl rfl HRG.out Try.underlying27 rfl (zero_of_info info_grp).2) rfl HEND.out

end Go.Proofs.Ytphnimmhjnhajaa.W8

