/-
  Layer 8, walks: groups compared.
-/
import Derived.Test.YtphnimmhjnhajaaKW8f
import Derived.Test.YtphnimmhjnhajaaKW8fb
namespace Go.Proofs.Ytphnimmhjnhajaa.W8
open Go.RowKit Go.PlainAid M8
set_option linter.unusedVariables false


theorem sameOp_any (x y : OpR) (w : World) (hx : OpAt w x) (hy : OpAt w y) : Calls Try.prog 17 #[x.val, y.val] w (SameE (x.o = y.o) w) := by
  by_cases n0 : x.o.kind ≠ y.o.kind
  · exact sameOp_no0 x y w  n0
  have h0 := Decidable.not_not.1 n0
  by_cases n1 : x.o.node.1 ≠ y.o.node.1
  · exact sameOp_no1 x y w h0 n1
  have h1 := Decidable.not_not.1 n1
  by_cases n2 : x.o.node.2.1 ≠ y.o.node.2.1
  · exact sameOp_no2 x y w h0 h1 n2
  have h2 := Decidable.not_not.1 n2
  by_cases n3 : x.o.node.2.2 ≠ y.o.node.2.2
  · exact sameOp_no3 x y w h0 h1 h2 n3
  have h3 := Decidable.not_not.1 n3
  by_cases n4 : x.o.parent.1 ≠ y.o.parent.1
  · exact sameOp_no4 x y w h0 h1 h2 h3 n4
  have h4 := Decidable.not_not.1 n4
  by_cases n5 : x.o.parent.2.1 ≠ y.o.parent.2.1
  · exact sameOp_no5 x y w h0 h1 h2 h3 h4 n5
  have h5 := Decidable.not_not.1 n5
  by_cases n6 : x.o.parent.2.2 ≠ y.o.parent.2.2
  · exact sameOp_no6 x y w h0 h1 h2 h3 h4 h5 n6
  have h6 := Decidable.not_not.1 n6
  by_cases n7 : x.o.name ≠ y.o.name
  · exact sameOp_no7 x y w h0 h1 h2 h3 h4 h5 h6 n7
  have h7 := Decidable.not_not.1 n7
  by_cases n8 : x.o.dir ≠ y.o.dir
  · exact sameOp_no8 x y w h0 h1 h2 h3 h4 h5 h6 h7 n8
  have h8 := Decidable.not_not.1 n8
  by_cases n10 : x.o.after.1 ≠ y.o.after.1
  · exact sameOp_no10 x y w h0 h1 h2 h3 h4 h5 h6 h7 h8 n10
  have h10 := Decidable.not_not.1 n10
  by_cases n11 : x.o.after.2.1 ≠ y.o.after.2.1
  · exact sameOp_no11 x y w h0 h1 h2 h3 h4 h5 h6 h7 h8 h10 n11
  have h11 := Decidable.not_not.1 n11
  by_cases n12 : x.o.after.2.2 ≠ y.o.after.2.2
  · exact sameOp_no12 x y w h0 h1 h2 h3 h4 h5 h6 h7 h8 h10 h11 n12
  have h12 := Decidable.not_not.1 n12
  by_cases n13 : x.o.elem.1 ≠ y.o.elem.1
  · exact sameOp_no13 x y w h0 h1 h2 h3 h4 h5 h6 h7 h8 h10 h11 h12 n13
  have h13 := Decidable.not_not.1 n13
  by_cases n14 : x.o.elem.2.1 ≠ y.o.elem.2.1
  · exact sameOp_no14 x y w h0 h1 h2 h3 h4 h5 h6 h7 h8 h10 h11 h12 h13 n14
  have h14 := Decidable.not_not.1 n14
  by_cases n15 : x.o.elem.2.2 ≠ y.o.elem.2.2
  · exact sameOp_no15 x y w h0 h1 h2 h3 h4 h5 h6 h7 h8 h10 h11 h12 h13 h14 n15
  have h15 := Decidable.not_not.1 n15
  by_cases n16 : x.o.text ≠ y.o.text
  · exact sameOp_no16 x y w h0 h1 h2 h3 h4 h5 h6 h7 h8 h10 h11 h12 h13 h14 h15 n16
  have h16 := Decidable.not_not.1 n16
  exact sameOp_yes x y w hx hy ⟨h0, Prod.ext h1 (Prod.ext h2 h3), Prod.ext h4 (Prod.ext h5 h6), h7, h8, Prod.ext h10 (Prod.ext h11 h12), Prod.ext h13 (Prod.ext h14 h15), h16⟩

theorem sameInts_e (A B : Option Addr) (n m c d : Nat) (l l' : List Int) (w : World) (ha : Rd w A (l.map (Value.int .i64))) (hb : Rd w B (l'.map (Value.int .i64))) (hn : l.length = n) (hm : l'.length = m) (hle : n ≤ 9223372036854775807) (hlm : m ≤ 9223372036854775807) :
    Calls Try.prog 16 #[.slice A n c, .slice B m d] w (SameE (l = l') w) :=
  (sameInts_any A B n m c d l l' w (by rw [flat_ints]; exact ha) (by rw [flat_ints]; exact hb) hn hm hle hlm).mono fun e w' ⟨he, h⟩ => ⟨_, he, decide_eq_true_iff, h⟩
theorem two_grps (w : World) (G H : GrpR) : Below w.heap.size w ((w.alloc (.cells G.cells.toArray 27)).alloc (.cells H.cells.toArray 27)) ∧ GrpCells ((w.alloc (.cells G.cells.toArray 27)).alloc (.cells H.cells.toArray 27)) w.heap.size G ∧ GrpCells ((w.alloc (.cells G.cells.toArray 27)).alloc (.cells H.cells.toArray 27)) (w.heap.size + 1) H := by
  have h1 := grp_box (heap_alloc_new w (.cells G.cells.toArray 27))
  have h2 := grp_box (heap_alloc_new (w.alloc (.cells G.cells.toArray 27)) (.cells H.cells.toArray 27))
  rw [World.size_alloc] at h2
  exact ⟨((Below.refl _ _).alloc (Nat.le_refl _) _).alloc (by simp) _, h1.keep (below_box _) (by simp), h2⟩
theorem grp_eq {G H : GrpR} : G.g = H.g ↔ (G.t = H.t ∧ G.r = H.r ∧ G.n = H.n ∧ G.deps = H.deps ∧ G.ut = H.ut ∧ G.ur = H.ur) ∧ G.xs.map OpR.o = H.xs.map OpR.o := by
  unfold GrpR.g
  constructor
  · intro h
    injection h with h1 h2 h3 h4 h5 h6 h7
    exact ⟨⟨h1, h2, h3, h4, h5, h6⟩, h7⟩
  · rintro ⟨⟨h1, h2, h3, h4, h5, h6⟩, h7⟩
    rw [h1, h2, h3, h4, h5, h6, h7]

set_option maxRecDepth 100000 in
set_option maxHeartbeats 4000000 in
theorem sameG_no0 (G H : GrpR) (w : World) (hG : GrpAt w G) (hH : GrpAt w H)  (hf : G.t ≠ H.t) : Calls Try.prog 10 #[G.val, H.val] w (SameE (G.g = H.g) w) := by
  show Calls Try.prog 10 #[.agg G.cells.toArray, .agg H.cells.toArray] w _
  have T2 := two_grps w G H
  obtain ⟨hB0, hg, hh⟩ := T2
  have B0 := Lib.hid hB0
  have GC := Lib.hid hg
  have HC := Lib.hid hh
  obtain ⟨d0, d1, d2, d3, d4, d5, d6⟩ := hg
  obtain ⟨c0, c1, c2, c3, c4, c5, c6⟩ := hh
  have NE := Lib.hid (show ¬ G.g = H.g from fun e => hf (grp_eq.1 e).1.1)
  clear d3 c3 d4 c4 d5 c5 d6 c6 hB0 hG hH GC HC d2 c2 
  have hd : (G.t == H.t) = false := by rw [beq_eq_false_iff_ne]; exact hf
  go_enter Try.func10, Try.ntmps10
  go_wp2
  go_ret
  exact ⟨false, rfl, ⟨(fun h => nomatch h), fun h => absurd h NE.out⟩, B0.out⟩

set_option maxRecDepth 100000 in
set_option maxHeartbeats 4000000 in
theorem sameG_no1 (G H : GrpR) (w : World) (hG : GrpAt w G) (hH : GrpAt w H) (h0 : G.t = H.t) (hf : G.r ≠ H.r) : Calls Try.prog 10 #[G.val, H.val] w (SameE (G.g = H.g) w) := by
  show Calls Try.prog 10 #[.agg G.cells.toArray, .agg H.cells.toArray] w _
  have T2 := two_grps w G H
  obtain ⟨hB0, hg, hh⟩ := T2
  have B0 := Lib.hid hB0
  have GC := Lib.hid hg
  have HC := Lib.hid hh
  obtain ⟨d0, d1, d2, d3, d4, d5, d6⟩ := hg
  obtain ⟨c0, c1, c2, c3, c4, c5, c6⟩ := hh
  rw [h0] at d0
  have NE := Lib.hid (show ¬ G.g = H.g from fun e => hf (grp_eq.1 e).1.2.1)
  clear d3 c3 d4 c4 d5 c5 d6 c6 hB0 hG hH GC HC d2 c2 h0
  have hd : (G.r == H.r) = false := by rw [beq_eq_false_iff_ne]; exact hf
  go_enter Try.func10, Try.ntmps10
  go_wp2
  go_ret
  exact ⟨false, rfl, ⟨(fun h => nomatch h), fun h => absurd h NE.out⟩, B0.out⟩

set_option maxRecDepth 100000 in
set_option maxHeartbeats 4000000 in
theorem sameG_no2 (G H : GrpR) (w : World) (hG : GrpAt w G) (hH : GrpAt w H) (h0 : G.t = H.t) (h1 : G.r = H.r) (hf : G.n ≠ H.n) : Calls Try.prog 10 #[G.val, H.val] w (SameE (G.g = H.g) w) := by
  show Calls Try.prog 10 #[.agg G.cells.toArray, .agg H.cells.toArray] w _
  have T2 := two_grps w G H
  obtain ⟨hB0, hg, hh⟩ := T2
  have B0 := Lib.hid hB0
  have GC := Lib.hid hg
  have HC := Lib.hid hh
  obtain ⟨d0, d1, d2, d3, d4, d5, d6⟩ := hg
  obtain ⟨c0, c1, c2, c3, c4, c5, c6⟩ := hh
  rw [h0] at d0
  rw [h1] at d1
  have NE := Lib.hid (show ¬ G.g = H.g from fun e => hf (grp_eq.1 e).1.2.2.1)
  clear d3 c3 d4 c4 d5 c5 d6 c6 hB0 hG hH GC HC  h0 h1
  have hd : (G.n == H.n) = false := by rw [beq_eq_false_iff_ne]; exact hf
  go_enter Try.func10, Try.ntmps10
  go_wp2
  go_ret
  exact ⟨false, rfl, ⟨(fun h => nomatch h), fun h => absurd h NE.out⟩, B0.out⟩

set_option maxRecDepth 100000 in
set_option maxHeartbeats 4000000 in
theorem sameG_no3 (G H : GrpR) (w : World) (hG : GrpAt w G) (hH : GrpAt w H) (h0 : G.t = H.t) (h1 : G.r = H.r) (h2 : G.n = H.n) (hf : G.deps ≠ H.deps) : Calls Try.prog 10 #[G.val, H.val] w (SameE (G.g = H.g) w) := by
  show Calls Try.prog 10 #[.agg G.cells.toArray, .agg H.cells.toArray] w _
  have T2 := two_grps w G H
  obtain ⟨hB0, hg, hh⟩ := T2
  have B0 := Lib.hid hB0
  have GC := Lib.hid hg
  have HC := Lib.hid hh
  obtain ⟨d0, d1, d2, d3, d4, d5, d6⟩ := hg
  obtain ⟨c0, c1, c2, c3, c4, c5, c6⟩ := hh
  have DG := Lib.hid (hG.deps.keep hB0)
  have DH := Lib.hid (hH.deps.keep hB0)
  have hl1 := Nat.le_trans hG.dcap.1 hG.dcap.2
  have hl2 := Nat.le_trans hH.dcap.1 hH.dcap.2
  rw [h0] at d0
  rw [h1] at d1
  rw [h2] at d2
  clear d4 c4 d5 c5 d6 c6
  have NE := Lib.hid (show ¬ G.g = H.g from fun e => hf (grp_eq.1 e).1.2.2.2.1)
  have HF := Lib.hid hf
  clear hB0 hG hH h0 h1 h2 hf
  go_enter Try.func10, Try.ntmps10
  go_wp2_with fail
  refine (sameInts_e _ _ _ _ _ _ G.deps H.deps _ DG.out DH.out rfl rfl hl1 hl2).mono ?_
  rintro e w1 ⟨b1, rfl, hb1, hbw1⟩
  have B1 := Lib.hid (chain B0.out hbw1)
  have GC1 := Lib.hid (GC.out.keep hbw1 (by simp only [World.size_alloc]; omega))
  have HC1 := Lib.hid (HC.out.keep hbw1 (by simp only [World.size_alloc]; omega))
  clear d0 d1 d2 d3 c0 c1 c2 c3 B0 GC HC GC1 HC1
  have hb2 : b1 = false := by
    cases b1 with
    | false => rfl
    | true => exact absurd (hb1.1 rfl) HF.out
  subst hb2
  clear hb1 hbw1
  go_wp2
  go_ret
  exact ⟨false, rfl, ⟨(fun h => nomatch h), fun h => absurd h NE.out⟩, B1.out⟩

set_option maxRecDepth 100000 in
set_option maxHeartbeats 4000000 in
theorem sameG_no4 (G H : GrpR) (w : World) (hG : GrpAt w G) (hH : GrpAt w H) (h0 : G.t = H.t) (h1 : G.r = H.r) (h2 : G.n = H.n) (h3 : G.deps = H.deps) (hf : G.ut ≠ H.ut) : Calls Try.prog 10 #[G.val, H.val] w (SameE (G.g = H.g) w) := by
  show Calls Try.prog 10 #[.agg G.cells.toArray, .agg H.cells.toArray] w _
  have T2 := two_grps w G H
  obtain ⟨hB0, hg, hh⟩ := T2
  have B0 := Lib.hid hB0
  have GC := Lib.hid hg
  have HC := Lib.hid hh
  obtain ⟨d0, d1, d2, d3, d4, d5, d6⟩ := hg
  obtain ⟨c0, c1, c2, c3, c4, c5, c6⟩ := hh
  have DG := Lib.hid (hG.deps.keep hB0)
  have DH := Lib.hid (hH.deps.keep hB0)
  have hl1 := Nat.le_trans hG.dcap.1 hG.dcap.2
  have hl2 := Nat.le_trans hH.dcap.1 hH.dcap.2
  rw [h0] at d0
  rw [h1] at d1
  rw [h2] at d2
  clear d4 c4 d5 c5 d6 c6
  have NE := Lib.hid (show ¬ G.g = H.g from fun e => hf (grp_eq.1 e).1.2.2.2.2.1)
  have HF := Lib.hid hf
  have H3 := Lib.hid h3
  skip
  skip
  clear hB0 hG hH h0 h1 h2 h3 hf  
  go_enter Try.func10, Try.ntmps10
  go_wp2_with fail
  refine (sameInts_e _ _ _ _ _ _ G.deps H.deps _ DG.out DH.out rfl rfl hl1 hl2).mono ?_
  rintro e w1 ⟨b1, rfl, hb1, hbw1⟩
  have B1 := Lib.hid (chain B0.out hbw1)
  have GC1 := Lib.hid (GC.out.keep hbw1 (by simp only [World.size_alloc]; omega))
  have HC1 := Lib.hid (HC.out.keep hbw1 (by simp only [World.size_alloc]; omega))
  clear d0 d1 d2 d3 c0 c1 c2 c3 B0 GC HC
  have hb2 : b1 = true := hb1.2 H3.out
  subst hb2
  clear hb1 hbw1
  obtain ⟨d0, d1, d2, d3, d4, d5, d6⟩ := GC1.out
  obtain ⟨c0, c1, c2, c3, c4, c5, c6⟩ := HC1.out
  skip
  skip
  clear d0 d1 d2 d3 c0 c1 c2 c3
  have hf := HF.out
  have hd : (G.ut == H.ut) = false := by rw [beq_eq_false_iff_ne]; exact hf
  go_wp2
  go_ret
  exact ⟨false, rfl, ⟨(fun h => nomatch h), fun h => absurd h NE.out⟩, B1.out⟩

set_option maxRecDepth 100000 in
set_option maxHeartbeats 4000000 in
theorem sameG_no5 (G H : GrpR) (w : World) (hG : GrpAt w G) (hH : GrpAt w H) (h0 : G.t = H.t) (h1 : G.r = H.r) (h2 : G.n = H.n) (h3 : G.deps = H.deps) (h4 : G.ut = H.ut) (hf : G.ur ≠ H.ur) : Calls Try.prog 10 #[G.val, H.val] w (SameE (G.g = H.g) w) := by
  show Calls Try.prog 10 #[.agg G.cells.toArray, .agg H.cells.toArray] w _
  have T2 := two_grps w G H
  obtain ⟨hB0, hg, hh⟩ := T2
  have B0 := Lib.hid hB0
  have GC := Lib.hid hg
  have HC := Lib.hid hh
  obtain ⟨d0, d1, d2, d3, d4, d5, d6⟩ := hg
  obtain ⟨c0, c1, c2, c3, c4, c5, c6⟩ := hh
  have DG := Lib.hid (hG.deps.keep hB0)
  have DH := Lib.hid (hH.deps.keep hB0)
  have hl1 := Nat.le_trans hG.dcap.1 hG.dcap.2
  have hl2 := Nat.le_trans hH.dcap.1 hH.dcap.2
  rw [h0] at d0
  rw [h1] at d1
  rw [h2] at d2
  clear d4 c4 d5 c5 d6 c6
  have NE := Lib.hid (show ¬ G.g = H.g from fun e => hf (grp_eq.1 e).1.2.2.2.2.2)
  have HF := Lib.hid hf
  have H3 := Lib.hid h3
  have H4 := Lib.hid h4
  skip
  clear hB0 hG hH h0 h1 h2 h3 hf h4 
  go_enter Try.func10, Try.ntmps10
  go_wp2_with fail
  refine (sameInts_e _ _ _ _ _ _ G.deps H.deps _ DG.out DH.out rfl rfl hl1 hl2).mono ?_
  rintro e w1 ⟨b1, rfl, hb1, hbw1⟩
  have B1 := Lib.hid (chain B0.out hbw1)
  have GC1 := Lib.hid (GC.out.keep hbw1 (by simp only [World.size_alloc]; omega))
  have HC1 := Lib.hid (HC.out.keep hbw1 (by simp only [World.size_alloc]; omega))
  clear d0 d1 d2 d3 c0 c1 c2 c3 B0 GC HC
  have hb2 : b1 = true := hb1.2 H3.out
  subst hb2
  clear hb1 hbw1
  obtain ⟨d0, d1, d2, d3, d4, d5, d6⟩ := GC1.out
  obtain ⟨c0, c1, c2, c3, c4, c5, c6⟩ := HC1.out
  rw [H4.out] at d4
  skip
  clear d0 d1 d2 d3 c0 c1 c2 c3
  have hf := HF.out
  have hd : (G.ur == H.ur) = false := by rw [beq_eq_false_iff_ne]; exact hf
  go_wp2
  go_ret
  exact ⟨false, rfl, ⟨(fun h => nomatch h), fun h => absurd h NE.out⟩, B1.out⟩

set_option maxRecDepth 100000 in
set_option maxHeartbeats 4000000 in
theorem sameG_no6 (G H : GrpR) (w : World) (hG : GrpAt w G) (hH : GrpAt w H) (h0 : G.t = H.t) (h1 : G.r = H.r) (h2 : G.n = H.n) (h3 : G.deps = H.deps) (h4 : G.ut = H.ut) (h5 : G.ur = H.ur) (hf : G.xs.length ≠ H.xs.length) : Calls Try.prog 10 #[G.val, H.val] w (SameE (G.g = H.g) w) := by
  show Calls Try.prog 10 #[.agg G.cells.toArray, .agg H.cells.toArray] w _
  have T2 := two_grps w G H
  obtain ⟨hB0, hg, hh⟩ := T2
  have B0 := Lib.hid hB0
  have GC := Lib.hid hg
  have HC := Lib.hid hh
  obtain ⟨d0, d1, d2, d3, d4, d5, d6⟩ := hg
  obtain ⟨c0, c1, c2, c3, c4, c5, c6⟩ := hh
  have DG := Lib.hid (hG.deps.keep hB0)
  have DH := Lib.hid (hH.deps.keep hB0)
  have hl1 := Nat.le_trans hG.dcap.1 hG.dcap.2
  have hl2 := Nat.le_trans hH.dcap.1 hH.dcap.2
  rw [h0] at d0
  rw [h1] at d1
  rw [h2] at d2
  clear d4 c4 d5 c5 d6 c6
  have NE := Lib.hid (show ¬ G.g = H.g from fun e => hf (by have := congrArg List.length (grp_eq.1 e).2; simpa using this))
  have HF := Lib.hid hf
  have H3 := Lib.hid h3
  have H4 := Lib.hid h4
  have H5 := Lib.hid h5
  clear hB0 hG hH h0 h1 h2 h3 hf h4 h5
  go_enter Try.func10, Try.ntmps10
  go_wp2_with fail
  refine (sameInts_e _ _ _ _ _ _ G.deps H.deps _ DG.out DH.out rfl rfl hl1 hl2).mono ?_
  rintro e w1 ⟨b1, rfl, hb1, hbw1⟩
  have B1 := Lib.hid (chain B0.out hbw1)
  have GC1 := Lib.hid (GC.out.keep hbw1 (by simp only [World.size_alloc]; omega))
  have HC1 := Lib.hid (HC.out.keep hbw1 (by simp only [World.size_alloc]; omega))
  clear d0 d1 d2 d3 c0 c1 c2 c3 B0 GC HC
  have hb2 : b1 = true := hb1.2 H3.out
  subst hb2
  clear hb1 hbw1
  obtain ⟨d0, d1, d2, d3, d4, d5, d6⟩ := GC1.out
  obtain ⟨c0, c1, c2, c3, c4, c5, c6⟩ := HC1.out
  rw [H4.out] at d4
  rw [H5.out] at d5
  clear d0 d1 d2 d3 c0 c1 c2 c3
  have hf := HF.out
  have hd : ((G.xs.length : Int) == (H.xs.length : Int)) = false := by rw [beq_eq_false_iff_ne]; exact fun e => hf (by omega)
  have hd' : ((G.xs.length : Int) != (H.xs.length : Int)) = true := by rw [bne, hd]; rfl
  go_wp2
  go_ret
  exact ⟨false, rfl, ⟨(fun h => nomatch h), fun h => absurd h NE.out⟩, B1.out⟩

