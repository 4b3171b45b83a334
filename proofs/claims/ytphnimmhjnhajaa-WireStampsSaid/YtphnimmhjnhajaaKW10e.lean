/-
  Layer 8, walks of the program: an operation put behind a parcel's bytes: kinds 0, 1.
-/
import Derived.Test.YtphnimmhjnhajaaKW10d
namespace Go.Proofs.Ytphnimmhjnhajaa.W8
open Go.RowKit Go.PlainAid M8 V1
set_option linter.unusedVariables false

theorem flagP_len (b : Bool) : (flagP b).length = 1 := by
  cases b
  · show (numB 0).length = 1
    rw [show numB 0 = natB 0 from numB_of 0, natB_small (by omega)]
    rfl
  · show (numB 1).length = 1
    rw [show numB 1 = natB 1 from numB_of 1, natB_small (by omega)]
    rfl
theorem u8s_cell (l : List UInt8) : ∀ u ∈ u8s l, u.oneCell' = true := by
  intro u hu
  simp only [u8s, List.mem_map] at hu
  obtain ⟨x, _, rfl⟩ := hu
  rfl

set_option maxRecDepth 100000 in
set_option maxHeartbeats 4000000 in
theorem pop_move (x : OpR) (hk : x.o.kind = 1) (hn : x.o.name.length ≤ 1000000) (W0 : World) (hx : OpAt W0 x) (w : World) (b : Nat) (hW : W0.heap.size ≤ b) (hbw : Below b W0 w) (T : TypeId) (hT : T ≠ 5) (l : List UInt8) (hp : Par w b T l) (hl : l.length ≤ 500000000000) :
    Calls Try.prog 24 #[.pointer (some ⟨b, 0, none⟩), .agg x.cells.toArray] w fun e w' => e = .returned (.tuple #[]) ∧ Par w' b T (l ++ opP x.o) ∧ Stp b w w' := by
  have hbl := hp.lt
  have HK := Lib.hid hk
  have HX := Lib.hid hx
  have HL := Lib.hid hl
  have HBW := Lib.hid hbw
  have HTT := Lib.hid hT
  have HP0 := Lib.hid ((hp.keep (below_box (.cells x.cells.toArray 44))).keep (bdrew _))
  have HS0 := Lib.hid (((Stp.refl b w).alloc (.cells x.cells.toArray 44) hbl).drew (by simp; omega))
  have hbx : (w.alloc (.cells x.cells.toArray 44)).heap[w.heap.size]? = some (.cells x.cells.toArray 44 (0, 0)) := heap_alloc_new w _
  have HB0 : Hid ((w.alloc (.cells x.cells.toArray 44)).drew.heap[w.heap.size]? = some (.cells x.cells.toArray 44 (0, 0))) := hbx
  have HBX := Lib.hid hbx
  have hn0 := numB_len (n := 1) (by omega)
  have hn1 := idP_len hx.nodeR
  have HN0 := Lib.hid hn0
  have HN1 := Lib.hid hn1
  have hoi := op_box hbx
  obtain ⟨d0, d1, d2, d3, d4, d5, d6, d7, d8, d9, d10, d11, d12, d13, d14, d15, d16, d17⟩ := hoi
  rw [hk] at d0
  clear d1 d2 d3 d4 d5 d6 d7 d8 d9 d10 d11 d12 d13 d14 d15 d16 d17 hp hl hx hbw hbx hk hn0 hn1
  go_enter Try.func24, Try.ntmps24
  obtain ⟨W1, hW1⟩ : ∃ W1, w.alloc (.cells x.cells.toArray 44) = W1 := ⟨_, rfl⟩
  have hszW : W1.heap.size = w.heap.size + 1 := by rw [← hW1]; simp
  rw [hW1] at HP0 HS0 HB0 HBX d0
  go_wp2
  refine S5.still_tail 5 S5.mixed (by kernel_rfl) ?_
  simp only [List.take_succ_cons, List.take_zero, List.drop_succ_cons, List.drop_zero]
  repeat still_step
  refine wpStill_nil ?_
  go_wp2_with fail
  refine (pnat_any 1 (by omega) _ b T l HP0.out (by have := HL.out; omega)).mono ?_
  rintro e w1 ⟨rfl, hp1, hs1⟩
  have HP1 := Lib.hid hp1
  have HB1 := Lib.hid (hs1.box HP0.out HB0.out op_ne (by omega))
  have HS1 := Lib.hid (HS0.out.trans hs1)
  clear hp1 hs1 d0 HBX hW1 hszW HP0 HB0 HS0
  have hoi := op_box HB1.out
  obtain ⟨d0, d1, d2, d3, d4, d5, d6, d7, d8, d9, d10, d11, d12, d13, d14, d15, d16, d17⟩ := hoi
  clear d4 d5 d6 d7 d8 d9 d10 d11 d12 d13 d14 d15 d16 d17
  rw [HK.out] at d0
  go_wp2_with fail
  refine (pid_any x.o.node HX.out.nodeR _ b T _ HP1.out (by have := HL.out; have := HN0.out; simp only [List.length_append]; omega)).mono ?_
  rintro e w2 ⟨rfl, hp2, hs2⟩
  have hpl2 := hp2.lt
  have HPA := Lib.hid hp2
  have HP2 := Lib.hid (hp2.keep (below_box (.cells #[.slice none 0 0] 50)))
  have HB2 := hs2.box HP1.out HB1.out op_ne (by omega)
  have HBS := Lib.hid ((Array.getElem?_eq_some_iff.1 HB2).1)
  replace HB2 := Lib.hid ((Below.heap_alloc w2 (.cells #[.slice none 0 0] 50) w.heap.size HBS.out).trans HB2)
  have HSA := Lib.hid (HS1.out.trans hs2)
  have HS2 := Lib.hid ((HS1.out.trans hs2).alloc (.cells #[.slice none 0 0] 50) hpl2)
  have hdn := heap_alloc_new w2 (.cells #[.slice none 0 0] 50)
  have HD2 := Lib.hid hdn
  obtain ⟨W2, hW2⟩ : ∃ W2, w2.alloc (.cells #[.slice none 0 0] 50) = W2 := ⟨_, rfl⟩
  have hsz2 : W2.heap.size = w2.heap.size + 1 := by rw [← hW2]; simp
  rw [hW2] at HP2 HB2 HS2 HD2
  clear hp2 hs2 d0 d1 d2 d3 HP1 HB1 HS1 hdn
  have HP3 := HP2
  have HB3 := HB2
  have HS3 := HS2
  have hoi := op_box HB2.out
  obtain ⟨d0, d1, d2, d3, d4, d5, d6, d7, d8, d9, d10, d11, d12, d13, d14, d15, d16, d17⟩ := hoi
  clear d1 d2 d3 d4 d5 d6 d7 d8 d9 d10 d11 d12 d13 d14 d15 d16 d17
  rw [HK.out] at d0
  have d0k := d0
  clear d0k
  obtain ⟨y0, y1, y2, y3, d4, d5, d6, y7, y8, y9, y10, y11, y12, y13, y14, y15, y16, y17⟩ := op_box HB3.out
  clear y0 y1 y2 y3 y7 y8 y9 y10 y11 y12 y13 y14 y15 y16 y17
  have ha := idP_len HX.out.parentR
  have HA := Lib.hid ha
  clear ha
  go_wp2_with fail
  refine (pid_any x.o.parent HX.out.parentR _ b T _ HP3.out (by have := HL.out; have := HN0.out; have := HN1.out; simp only [List.length_append]; omega)).mono ?_
  rintro e w4 ⟨rfl, hp4, hs4⟩
  have hpl4 := hp4.lt
  have HB4 := Lib.hid (hs4.box HP3.out HB3.out op_ne (by omega))
  have HP4 := Lib.hid (hp4.keep (bdrew w4))
  have HS4 := Lib.hid ((HS3.out.trans hs4).drew hpl4)
  have HR4 := Lib.hid (hs4.box HP3.out HD2.out row_ne (by omega))
  clear hp4 hs4 d4 d5 d6 d0 hW2
  obtain ⟨y0, y1, y2, y3, y4, y5, y6, d7, y8, y9, y10, y11, y12, y13, y14, y15, y16, y17⟩ := op_box HB4.out
  clear y0 y1 y2 y3 y4 y5 y6 y8 y9 y10 y11 y12 y13 y14 y15 y16 y17
  go_wp2
  refine S5.still_tail 5 S5.mixed (by kernel_rfl) ?_
  simp only [List.take_succ_cons, List.take_zero, List.drop_succ_cons, List.drop_zero]
  repeat still_step
  refine wpStill_nil ?_
  go_wp2_with fail
  refine (ptext_any x.o.name hn _ b T _ HP4.out (by have := HL.out; have := HN0.out; have := HN1.out; have := HA.out; simp only [List.length_append]; omega)).mono ?_
  rintro e w5 ⟨rfl, hp5, hs5⟩
  have hpl5 := hp5.lt
  have HP5 := Lib.hid (hp5.keep (bdrew w5))
  have HS5 := Lib.hid ((HS4.out.trans hs5).drew hpl5)
  have HR5 := Lib.hid (hs5.box HP4.out HR4.out row_ne (by omega))
  clear hp5 hs5 d7
  have hp5 := HP5.out
  obtain ⟨ll, hll⟩ : ∃ ll, l ++ numB 1 ++ idP x.o.node ++ idP x.o.parent ++ bytesB x.o.name = ll := ⟨_, rfl⟩
  have HLL := Lib.hid hll
  rw [hll] at hp5
  clear hll
  obtain ⟨v, h1, h2⟩ := hp5 
  have q0 : w5.cell? ⟨b, 0, none⟩ = some v := (cell_of_row w5 b 0 _ T (0, 0) h1).trans rfl
  have q1 : w5.cell? ⟨w2.heap.size, 0, none⟩ = some (.slice none 0 0) := (cell_of_row w5 w2.heap.size 0 _ _ (0, 0) HR5.out).trans rfl
  have f0 := frozen_of_row w5 b 0 _ T h1
  obtain ⟨i0, hi0, hz0, hz1, hz2⟩ := info_parts info_u8
  obtain ⟨A', c', hvv, _, _⟩ := Rd.of_own h2
  have H2 := Lib.hid h2
  obtain ⟨_, _, hps, hss⟩ := put_step (w2 := w5.drew) (d := []) h1 h2 ⟨rfl, rfl, rfl, Nat.le_refl _, fun _ _ _ => rfl⟩ (by rw [show u8s ([] : List UInt8) = [] from rfl, List.append_nil]; exact h2) (.inl rfl)
  have HPF : Hid (Par (w5.drew.setCell ⟨b, 0, none⟩ v) b T (l ++ opP x.o)) := by
    show Par _ _ _ _
    have he : opP x.o = numB 1 ++ idP x.o.node ++ (idP x.o.parent ++ bytesB x.o.name) := by unfold opP tailP; simp [HK.out]
    rw [he]
    rw [List.append_nil, ← HLL.out] at hps
    simp only [List.append_assoc] at hps ⊢
    exact hps
  have HSF := Lib.hid (HS5.out.trans hss)
  clear hps hss
  subst hvv
  clear h1 h2
  go_upto_region 13 with fail
  go_region_law (refine step_append_none rfl (.tmp 45) (.tmp 47) 48 rfl (b + 1) 5 i0 Try.underlying48 hi0 _ _ _ rfl H2.out rfl ?_)
  all_goals go_wp2
  all_goals refine bodyPost_end (results_none rfl _ _ _) rfl ?_
  all_goals exact ⟨rfl, HPF.out, HSF.out⟩

set_option maxRecDepth 100000 in
set_option maxHeartbeats 4000000 in
theorem pop_make (x : OpR) (hk : x.o.kind = 0) (hn : x.o.name.length ≤ 1000000) (W0 : World) (hx : OpAt W0 x) (w : World) (b : Nat) (hW : W0.heap.size ≤ b) (hbw : Below b W0 w) (T : TypeId) (hT : T ≠ 5) (l : List UInt8) (hp : Par w b T l) (hl : l.length ≤ 500000000000) :
    Calls Try.prog 24 #[.pointer (some ⟨b, 0, none⟩), .agg x.cells.toArray] w fun e w' => e = .returned (.tuple #[]) ∧ Par w' b T (l ++ opP x.o) ∧ Stp b w w' := by
  have hbl := hp.lt
  have HK := Lib.hid hk
  have HX := Lib.hid hx
  have HL := Lib.hid hl
  have HBW := Lib.hid hbw
  have HTT := Lib.hid hT
  have HP0 := Lib.hid ((hp.keep (below_box (.cells x.cells.toArray 44))).keep (bdrew _))
  have HS0 := Lib.hid (((Stp.refl b w).alloc (.cells x.cells.toArray 44) hbl).drew (by simp; omega))
  have hbx : (w.alloc (.cells x.cells.toArray 44)).heap[w.heap.size]? = some (.cells x.cells.toArray 44 (0, 0)) := heap_alloc_new w _
  have HB0 : Hid ((w.alloc (.cells x.cells.toArray 44)).drew.heap[w.heap.size]? = some (.cells x.cells.toArray 44 (0, 0))) := hbx
  have HBX := Lib.hid hbx
  have hn0 := numB_len (n := 0) (by omega)
  have hn1 := idP_len hx.nodeR
  have HN0 := Lib.hid hn0
  have HN1 := Lib.hid hn1
  have hoi := op_box hbx
  obtain ⟨d0, d1, d2, d3, d4, d5, d6, d7, d8, d9, d10, d11, d12, d13, d14, d15, d16, d17⟩ := hoi
  rw [hk] at d0
  clear d1 d2 d3 d4 d5 d6 d7 d8 d9 d10 d11 d12 d13 d14 d15 d16 d17 hp hl hx hbw hbx hk hn0 hn1
  go_enter Try.func24, Try.ntmps24
  obtain ⟨W1, hW1⟩ : ∃ W1, w.alloc (.cells x.cells.toArray 44) = W1 := ⟨_, rfl⟩
  have hszW : W1.heap.size = w.heap.size + 1 := by rw [← hW1]; simp
  rw [hW1] at HP0 HS0 HB0 HBX d0
  go_wp2
  refine S5.still_tail 5 S5.mixed (by kernel_rfl) ?_
  simp only [List.take_succ_cons, List.take_zero, List.drop_succ_cons, List.drop_zero]
  repeat still_step
  refine wpStill_nil ?_
  go_wp2_with fail
  refine (pnat_any 0 (by omega) _ b T l HP0.out (by have := HL.out; omega)).mono ?_
  rintro e w1 ⟨rfl, hp1, hs1⟩
  have HP1 := Lib.hid hp1
  have HB1 := Lib.hid (hs1.box HP0.out HB0.out op_ne (by omega))
  have HS1 := Lib.hid (HS0.out.trans hs1)
  clear hp1 hs1 d0 HBX hW1 hszW HP0 HB0 HS0
  have hoi := op_box HB1.out
  obtain ⟨d0, d1, d2, d3, d4, d5, d6, d7, d8, d9, d10, d11, d12, d13, d14, d15, d16, d17⟩ := hoi
  clear d4 d5 d6 d7 d8 d9 d10 d11 d12 d13 d14 d15 d16 d17
  rw [HK.out] at d0
  go_wp2_with fail
  refine (pid_any x.o.node HX.out.nodeR _ b T _ HP1.out (by have := HL.out; have := HN0.out; simp only [List.length_append]; omega)).mono ?_
  rintro e w2 ⟨rfl, hp2, hs2⟩
  have hpl2 := hp2.lt
  have HPA := Lib.hid hp2
  have HP2 := Lib.hid (hp2.keep (below_box (.cells #[.slice none 0 0] 50)))
  have HB2 := hs2.box HP1.out HB1.out op_ne (by omega)
  have HBS := Lib.hid ((Array.getElem?_eq_some_iff.1 HB2).1)
  replace HB2 := Lib.hid ((Below.heap_alloc w2 (.cells #[.slice none 0 0] 50) w.heap.size HBS.out).trans HB2)
  have HSA := Lib.hid (HS1.out.trans hs2)
  have HS2 := Lib.hid ((HS1.out.trans hs2).alloc (.cells #[.slice none 0 0] 50) hpl2)
  have hdn := heap_alloc_new w2 (.cells #[.slice none 0 0] 50)
  have HD2 := Lib.hid hdn
  obtain ⟨W2, hW2⟩ : ∃ W2, w2.alloc (.cells #[.slice none 0 0] 50) = W2 := ⟨_, rfl⟩
  have hsz2 : W2.heap.size = w2.heap.size + 1 := by rw [← hW2]; simp
  rw [hW2] at HP2 HB2 HS2 HD2
  clear hp2 hs2 d0 d1 d2 d3 HP1 HB1 HS1 hdn
  have hoi := op_box HB2.out
  obtain ⟨d0, d1, d2, d3, d4, d5, d6, d7, d8, d9, d10, d11, d12, d13, d14, d15, d16, d17⟩ := hoi
  clear d1 d2 d3 d4 d5 d6 d7 d9 d10 d11 d12 d13 d14 d15 d16 d17
  rw [HK.out] at d0
  have hnew : Par W2 w2.heap.size 50 [] := by rw [← hW2]; exact Par.new w2 50
  have HNEW := Lib.hid hnew
  clear hnew
  go_wp2_with fail
  refine (pflag_any x.o.dir _ w2.heap.size 50 [] HNEW.out (by simp)).mono ?_
  rintro e w3 ⟨rfl, hp3, hs3⟩
  have hB2 : Below w2.heap.size w2 W2 := by rw [← hW2]; exact below_box _
  have hB3 : Below w2.heap.size w2 w3 := hB2.trans hs3.below
  have HP3 := Lib.hid (HPA.out.keep hB3)
  have HB3 := Lib.hid ((hs3.below.block w.heap.size HBS.out).trans HB2.out)
  have HS3 := Lib.hid (HSA.out.trans (Stp.of hB3 hpl2))
  have HR3 := Lib.hid hp3
  have HM3 : Hid (∀ q, Mine w3 b q → q < w2.heap.size) := fun q hm => by
    obtain ⟨v, T', h1, h2⟩ := hm
    have h3 : w2.heap[b]? = some (.cells #[v] T' (0, 0)) := by rw [← hB3.block b hpl2]; exact h1
    obtain ⟨cur, h4⟩ := HPA.out.mine ⟨v, T', h3, h2⟩
    exact (Array.getElem?_eq_some_iff.1 h4).1
  clear hp3 hs3 d0 d8 hB2 hB3 hW2
  have hoi := op_box HB3.out
  obtain ⟨d0, d1, d2, d3, d4, d5, d6, d7, d8, d9, d10, d11, d12, d13, d14, d15, d16, d17⟩ := hoi
  clear d0 d1 d2 d3 d7 d8 d9 d10 d11 d12 d13 d14 d15 d16 d17
  have ha := idP_len HX.out.parentR
  have HA := Lib.hid ha
  clear ha
  go_wp2_with fail
  refine (pid_any x.o.parent HX.out.parentR _ b T _ HP3.out (by have := HL.out; have := HN0.out; have := HN1.out; simp only [List.length_append]; omega)).mono ?_
  rintro e w4 ⟨rfl, hp4, hs4⟩
  have hpl4 := hp4.lt
  have HB4 := Lib.hid (hs4.box HP3.out HB3.out op_ne (by omega))
  have HP4 := Lib.hid (hp4.keep (bdrew w4))
  have HS4 := Lib.hid ((HS3.out.trans hs4).drew hpl4)
  have HS34 := Lib.hid (hs4.drew hpl4)
  clear hp4 hs4 d4 d5 d6
  obtain ⟨y0, y1, y2, y3, y4, y5, y6, d7, y8, y9, y10, y11, y12, y13, y14, y15, y16, y17⟩ := op_box HB4.out
  clear y0 y1 y2 y3 y4 y5 y6 y8 y9 y10 y11 y12 y13 y14 y15 y16 y17
  go_wp2
  refine S5.still_tail 5 S5.mixed (by kernel_rfl) ?_
  simp only [List.take_succ_cons, List.take_zero, List.drop_succ_cons, List.drop_zero]
  repeat still_step
  refine wpStill_nil ?_
  go_wp2_with fail
  refine (ptext_any x.o.name hn _ b T _ HP4.out (by have := HL.out; have := HN0.out; have := HN1.out; have := HA.out; simp only [List.length_append]; omega)).mono ?_
  rintro e w5 ⟨rfl, hp5, hs5⟩
  have hpl5 := hp5.lt
  have HP5 := Lib.hid (hp5.keep (bdrew w5))
  have HS5 := Lib.hid ((HS4.out.trans hs5).drew hpl5)
  have HR5 := Lib.hid (HR3.out.over (HS34.out.trans hs5) HP3.out row_ne HTT.out (by omega) HM3.out)
  clear hp5 hs5 d7
  have hp5 := HP5.out
  obtain ⟨ll, hll⟩ : ∃ ll, l ++ numB 0 ++ idP x.o.node ++ idP x.o.parent ++ bytesB x.o.name = ll := ⟨_, rfl⟩
  have HLL := Lib.hid hll
  rw [hll] at hp5
  clear hll
  obtain ⟨v, h1, h2⟩ := hp5 
  have hr5 := HR5.out
  obtain ⟨v2, r1, r2⟩ := hr5
  have q0 : w5.cell? ⟨b, 0, none⟩ = some v := (cell_of_row w5 b 0 _ T (0, 0) h1).trans rfl
  have q1 : w5.cell? ⟨w2.heap.size, 0, none⟩ = some v2 := (cell_of_row w5 w2.heap.size 0 _ _ (0, 0) r1).trans rfl
  obtain ⟨i0, hi0, hz0, hz1, hz2⟩ := info_parts info_u8
  have hfl := flagP_len x.o.dir
  have hfe : ([] : List UInt8) ++ flagP x.o.dir = flagP x.o.dir := rfl
  rw [hfe] at r2
  obtain ⟨g2, cap2, rfl, hcells⟩ : ∃ g2 cap2, v2 = .slice (some ⟨g2, 0, none⟩) (flagP x.o.dir).length cap2 ∧ ∀ j u, (u8s (flagP x.o.dir))[j]? = some u → w5.cell? ((⟨g2, 0, none⟩ : Addr).add j) = some u := by
    rcases r2.2 with ⟨r3, _⟩ | ⟨g, cap, cur, r3, _⟩
    · omega
    · exact ⟨g, cap, r3, r2.cells (g := g) (by rw [r3]; rfl)⟩
  have HCE := Lib.hid hcells
  have H1 := Lib.hid h1
  have H2 := Lib.hid h2
  obtain ⟨fd, hfd⟩ : ∃ fd, flagP x.o.dir = fd := ⟨_, rfl⟩
  have HFD := Lib.hid hfd
  rw [hfd] at q1 HCE hfl
  have hul : (u8s fd).length = fd.length := by simp [u8s]
  have hfl1 : 0 < fd.length := by omega
  have hfl2 : fd.length ≤ 2 := by omega
  have hplen : ll.length ≤ 700000000000 := by
    rw [← HLL.out]
    have := HL.out; have := HN0.out; have := HN1.out; have := HA.out; have := bytesB_len9 hn
    simp only [List.length_append]
    omega
  clear h1 h2 r1 r2 hcells hfd hfe hfl
  go_upto_region 13 with fail
  have HNX : Hid (∀ v' w6, World.ownsRow w6 (b + 1) 5 1 v' (ll.length + fd.length) (u8s ll ++ u8s fd) → w5.drew.grownBy w6 v.ownBlock → (v'.ownBlock = v.ownBlock ∨ v'.ownBlock = some w5.drew.heap.size) → w6.cell? ⟨b, 0, none⟩ = some v ∧ w6.frozen? ⟨b, 0, none⟩ = false ∧ (∃ A c, v' = .slice A (ll.length + fd.length) c) ∧ Hid (Par (w6.setCell ⟨b, 0, none⟩ v') b T (l ++ opP x.o)) ∧ Hid (Stp b w (w6.setCell ⟨b, 0, none⟩ v'))) := fun v' w6 hown6 hg6 hwh => by
    obtain ⟨hce, hf, hpp, hss⟩ := put_step (d := fd) H1.out H2.out hg6 hown6 hwh
    obtain ⟨A', c', hv', _, _⟩ := Rd.of_own hown6
    refine ⟨hce, hf, ⟨A', c', hv'⟩, ?_, HS5.out.trans hss⟩
    show Par _ _ _ _
    have he : opP x.o = numB 0 ++ idP x.o.node ++ (idP x.o.parent ++ bytesB x.o.name ++ flagP x.o.dir) := by unfold opP tailP; simp [HK.out]
    rw [he]
    rw [HFD.out]
    rw [← HLL.out] at hpp
    simp only [List.append_assoc] at hpp ⊢
    exact hpp
  go_region_law (refine step_append_where2 rfl (.tmp 45) (.tmp 47) 48 rfl (b + 1) 5 i0 Try.underlying48 hi0 hz0 hz1 hz2 _ _ _ rfl H2.out ⟨g2, 0, none⟩ fd.length cap2 (u8s fd) rfl (by omega) hul HCE.out (u8s_cell fd) (by unfold maxLen; omega) (by omega) hpl5 ?_; intro v' w6 hown6 hg6 hwh; obtain ⟨hce, hf, ⟨A', c', rfl⟩, HPF, HSF⟩ := HNX.out v' w6 hown6 hg6 hwh; clear hown6 hg6 hwh)
  all_goals go_wp2
  all_goals refine bodyPost_end (results_none rfl _ _ _) rfl ?_
  all_goals exact ⟨rfl, HPF.out, HSF.out⟩

theorem pop_any (x : OpR) (hk : x.o.kind = 0 ∨ x.o.kind = 1 ∨ x.o.kind = 2 ∨ x.o.kind = 3 ∨ x.o.kind = 4) (h1 : x.o.name.length ≤ 1000000) (h2 : x.o.text.length ≤ 1000000) (h3 : x.o.dots.length ≤ 1000000) (h4 : x.o.elems.length ≤ 1000000) (W0 : World) (hx : OpAt W0 x) (w : World) (b : Nat) (hW : W0.heap.size ≤ b) (hbw : Below b W0 w) (T : TypeId) (hT : T ≠ 5) (l : List UInt8) (hp : Par w b T l) (hl : l.length ≤ 500000000000) :
    Calls Try.prog 24 #[.pointer (some ⟨b, 0, none⟩), .agg x.cells.toArray] w fun e w' => e = .returned (.tuple #[]) ∧ Par w' b T (l ++ opP x.o) ∧ Stp b w w' := by
  rcases hk with hk | hk | hk | hk | hk
  · exact pop_make x hk h1 W0 hx w b hW hbw T hT l hp hl
  · exact pop_move x hk h1 W0 hx w b hW hbw T hT l hp hl
  · exact pop_drop x hk h3 W0 hx w b hW hbw T hT l hp hl
  · exact pop_ins x hk h2 W0 hx w b hW hbw T hT l hp hl
  · exact pop_erase x hk h4 W0 hx w b hW hbw T hT l hp hl

end Go.Proofs.Ytphnimmhjnhajaa.W8

