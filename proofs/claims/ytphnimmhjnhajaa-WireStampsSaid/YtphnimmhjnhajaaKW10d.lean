/-
  Layer 8, walks of the program: an operation put behind a parcel's bytes: kinds 2, 3, 4.
-/
import Derived.Test.YtphnimmhjnhajaaKW10c
namespace Go.Proofs.Ytphnimmhjnhajaa.W8
open Go.RowKit Go.PlainAid M8 V1
set_option linter.unusedVariables false

set_option maxRecDepth 100000 in
set_option maxHeartbeats 4000000 in
theorem pop_drop (x : OpR) (hk : x.o.kind = 2) (hn : x.o.dots.length ≤ 1000000) (W0 : World) (hx : OpAt W0 x) (w : World) (b : Nat) (hW : W0.heap.size ≤ b) (hbw : Below b W0 w) (T : TypeId) (hT : T ≠ 5) (l : List UInt8) (hp : Par w b T l) (hl : l.length ≤ 500000000000) :
    Calls Try.prog 24 #[.pointer (some ⟨b, 0, none⟩), .agg x.cells.toArray] w fun e w' => e = .returned (.tuple #[]) ∧ Par w' b T (l ++ opP x.o) ∧ Stp b w w' := by
  have hbl := hp.lt
  have HK := Lib.hid hk
  have HX := Lib.hid hx
  have HL := Lib.hid hl
  have HBW := Lib.hid hbw
  have HTT := Lib.hid hT
  have HP0 := Lib.hid ((hp.keep (below_box (.cells x.cells.toArray 44))).keep (bdrew _))
  have HS0 := Lib.hid (((Stp.refl b w).alloc (.cells x.cells.toArray 44) hbl).drew (by simp; omega))
  have hbx : (w.alloc (.cells x.cells.toArray 44)).heap[w.heap.size]? = some (.cells x.cells.toArray 44 (0, 0)) := heap_alloc_new w _
  have HB0 : Hid ((w.alloc (.cells x.cells.toArray 44)).drew.heap[w.heap.size]? = some (.cells x.cells.toArray 44 (0, 0))) := hbx
  have HBX := Lib.hid hbx
  have hn0 := numB_len (n := 2) (by omega)
  have hn1 := idP_len hx.nodeR
  have HN0 := Lib.hid hn0
  have HN1 := Lib.hid hn1
  have hoi := op_box hbx
  obtain ⟨d0, d1, d2, d3, d4, d5, d6, d7, d8, d9, d10, d11, d12, d13, d14, d15, d16, d17⟩ := hoi
  rw [hk] at d0
  clear d1 d2 d3 d4 d5 d6 d7 d8 d9 d10 d11 d12 d13 d14 d15 d16 d17 hp hl hx hbw hbx hk hn0 hn1
  go_enter Try.func24, Try.ntmps24
  obtain ⟨W1, hW1⟩ : ∃ W1, w.alloc (.cells x.cells.toArray 44) = W1 := ⟨_, rfl⟩
  have hszW : W1.heap.size = w.heap.size + 1 := by rw [← hW1]; simp
  rw [hW1] at HP0 HS0 HB0 HBX d0
  go_wp2
  refine S5.still_tail 5 S5.mixed (by kernel_rfl) ?_
  simp only [List.take_succ_cons, List.take_zero, List.drop_succ_cons, List.drop_zero]
  repeat still_step
  refine wpStill_nil ?_
  go_wp2_with fail
  refine (pnat_any 2 (by omega) _ b T l HP0.out (by have := HL.out; omega)).mono ?_
  rintro e w1 ⟨rfl, hp1, hs1⟩
  have HP1 := Lib.hid hp1
  have HB1 := Lib.hid (hs1.box HP0.out HB0.out op_ne (by omega))
  have HS1 := Lib.hid (HS0.out.trans hs1)
  clear hp1 hs1 d0 HBX hW1 hszW HP0 HB0 HS0
  have hoi := op_box HB1.out
  obtain ⟨d0, d1, d2, d3, d4, d5, d6, d7, d8, d9, d10, d11, d12, d13, d14, d15, d16, d17⟩ := hoi
  clear d4 d5 d6 d7 d8 d9 d10 d11 d12 d13 d14 d15 d16 d17
  rw [HK.out] at d0
  go_wp2_with fail
  refine (pid_any x.o.node HX.out.nodeR _ b T _ HP1.out (by have := HL.out; have := HN0.out; simp only [List.length_append]; omega)).mono ?_
  rintro e w2 ⟨rfl, hp2, hs2⟩
  have hpl2 := hp2.lt
  have HPA := Lib.hid hp2
  have HP2 := Lib.hid (hp2.keep (below_box (.cells #[.slice none 0 0] 50)))
  have HB2 := hs2.box HP1.out HB1.out op_ne (by omega)
  have HBS := Lib.hid ((Array.getElem?_eq_some_iff.1 HB2).1)
  replace HB2 := Lib.hid ((Below.heap_alloc w2 (.cells #[.slice none 0 0] 50) w.heap.size HBS.out).trans HB2)
  have HSA := Lib.hid (HS1.out.trans hs2)
  have HS2 := Lib.hid ((HS1.out.trans hs2).alloc (.cells #[.slice none 0 0] 50) hpl2)
  have hdn := heap_alloc_new w2 (.cells #[.slice none 0 0] 50)
  have HD2 := Lib.hid hdn
  obtain ⟨W2, hW2⟩ : ∃ W2, w2.alloc (.cells #[.slice none 0 0] 50) = W2 := ⟨_, rfl⟩
  have hsz2 : W2.heap.size = w2.heap.size + 1 := by rw [← hW2]; simp
  rw [hW2] at HP2 HB2 HS2 HD2
  clear hp2 hs2 d0 d1 d2 d3 HP1 HB1 HS1 hdn
  have hoi := op_box HB2.out
  obtain ⟨d0, d1, d2, d3, d4, d5, d6, d7, d8, d9, d10, d11, d12, d13, d14, d15, d16, d17⟩ := hoi
  clear d1 d2 d3 d4 d5 d6 d7 d8 d10 d11 d12 d13 d14 d15 d16 d17
  rw [HK.out] at d0
  have hbk : Below b W0 W2 := HBW.out.trans HS2.out.below
  have HBK := Lib.hid hbk
  clear hbk
  go_wp2_with fail
  refine (pstamps_any x.o.dots HX.out.dotsR hn x.dA x.dc W0 HX.out.dots _ b hW HBK.out T _ HP2.out (by have := HL.out; have := HN0.out; have := HN1.out; simp only [List.length_append]; omega)).mono ?_
  rintro e w3 ⟨rfl, hp3, hs3⟩
  have HPF : Hid (Par w3 b T (l ++ opP x.o)) := by
    show Par _ _ _ _
    have he : opP x.o = numB 2 ++ idP x.o.node ++ (numB (x.o.dots.length : Int) ++ x.o.dots.flatMap stampP) := by unfold opP tailP; simp [HK.out]
    rw [he]
    simp only [List.append_assoc] at hp3 ⊢
    exact hp3
  have HSF := Lib.hid (HS2.out.trans hs3)
  clear hp3 hs3 d0 d9 hW2
  go_wp2
  refine bodyPost_end (results_none rfl _ _ _) rfl ?_
  exact ⟨rfl, HPF.out, HSF.out⟩

set_option maxRecDepth 100000 in
set_option maxHeartbeats 4000000 in
theorem pop_erase (x : OpR) (hk : x.o.kind = 4) (hn : x.o.elems.length ≤ 1000000) (W0 : World) (hx : OpAt W0 x) (w : World) (b : Nat) (hW : W0.heap.size ≤ b) (hbw : Below b W0 w) (T : TypeId) (hT : T ≠ 5) (l : List UInt8) (hp : Par w b T l) (hl : l.length ≤ 500000000000) :
    Calls Try.prog 24 #[.pointer (some ⟨b, 0, none⟩), .agg x.cells.toArray] w fun e w' => e = .returned (.tuple #[]) ∧ Par w' b T (l ++ opP x.o) ∧ Stp b w w' := by
  have hbl := hp.lt
  have HK := Lib.hid hk
  have HX := Lib.hid hx
  have HL := Lib.hid hl
  have HBW := Lib.hid hbw
  have HTT := Lib.hid hT
  have HP0 := Lib.hid ((hp.keep (below_box (.cells x.cells.toArray 44))).keep (bdrew _))
  have HS0 := Lib.hid (((Stp.refl b w).alloc (.cells x.cells.toArray 44) hbl).drew (by simp; omega))
  have hbx : (w.alloc (.cells x.cells.toArray 44)).heap[w.heap.size]? = some (.cells x.cells.toArray 44 (0, 0)) := heap_alloc_new w _
  have HB0 : Hid ((w.alloc (.cells x.cells.toArray 44)).drew.heap[w.heap.size]? = some (.cells x.cells.toArray 44 (0, 0))) := hbx
  have HBX := Lib.hid hbx
  have hn0 := numB_len (n := 4) (by omega)
  have hn1 := idP_len hx.nodeR
  have HN0 := Lib.hid hn0
  have HN1 := Lib.hid hn1
  have hoi := op_box hbx
  obtain ⟨d0, d1, d2, d3, d4, d5, d6, d7, d8, d9, d10, d11, d12, d13, d14, d15, d16, d17⟩ := hoi
  rw [hk] at d0
  clear d1 d2 d3 d4 d5 d6 d7 d8 d9 d10 d11 d12 d13 d14 d15 d16 d17 hp hl hx hbw hbx hk hn0 hn1
  go_enter Try.func24, Try.ntmps24
  obtain ⟨W1, hW1⟩ : ∃ W1, w.alloc (.cells x.cells.toArray 44) = W1 := ⟨_, rfl⟩
  have hszW : W1.heap.size = w.heap.size + 1 := by rw [← hW1]; simp
  rw [hW1] at HP0 HS0 HB0 HBX d0
  go_wp2
  refine S5.still_tail 5 S5.mixed (by kernel_rfl) ?_
  simp only [List.take_succ_cons, List.take_zero, List.drop_succ_cons, List.drop_zero]
  repeat still_step
  refine wpStill_nil ?_
  go_wp2_with fail
  refine (pnat_any 4 (by omega) _ b T l HP0.out (by have := HL.out; omega)).mono ?_
  rintro e w1 ⟨rfl, hp1, hs1⟩
  have HP1 := Lib.hid hp1
  have HB1 := Lib.hid (hs1.box HP0.out HB0.out op_ne (by omega))
  have HS1 := Lib.hid (HS0.out.trans hs1)
  clear hp1 hs1 d0 HBX hW1 hszW HP0 HB0 HS0
  have hoi := op_box HB1.out
  obtain ⟨d0, d1, d2, d3, d4, d5, d6, d7, d8, d9, d10, d11, d12, d13, d14, d15, d16, d17⟩ := hoi
  clear d4 d5 d6 d7 d8 d9 d10 d11 d12 d13 d14 d15 d16 d17
  rw [HK.out] at d0
  go_wp2_with fail
  refine (pid_any x.o.node HX.out.nodeR _ b T _ HP1.out (by have := HL.out; have := HN0.out; simp only [List.length_append]; omega)).mono ?_
  rintro e w2 ⟨rfl, hp2, hs2⟩
  have hpl2 := hp2.lt
  have HPA := Lib.hid hp2
  have HP2 := Lib.hid (hp2.keep (below_box (.cells #[.slice none 0 0] 50)))
  have HB2 := hs2.box HP1.out HB1.out op_ne (by omega)
  have HBS := Lib.hid ((Array.getElem?_eq_some_iff.1 HB2).1)
  replace HB2 := Lib.hid ((Below.heap_alloc w2 (.cells #[.slice none 0 0] 50) w.heap.size HBS.out).trans HB2)
  have HSA := Lib.hid (HS1.out.trans hs2)
  have HS2 := Lib.hid ((HS1.out.trans hs2).alloc (.cells #[.slice none 0 0] 50) hpl2)
  have hdn := heap_alloc_new w2 (.cells #[.slice none 0 0] 50)
  have HD2 := Lib.hid hdn
  obtain ⟨W2, hW2⟩ : ∃ W2, w2.alloc (.cells #[.slice none 0 0] 50) = W2 := ⟨_, rfl⟩
  have hsz2 : W2.heap.size = w2.heap.size + 1 := by rw [← hW2]; simp
  rw [hW2] at HP2 HB2 HS2 HD2
  clear hp2 hs2 d0 d1 d2 d3 HP1 HB1 HS1 hdn
  have hoi := op_box HB2.out
  obtain ⟨d0, d1, d2, d3, d4, d5, d6, d7, d8, d9, d10, d11, d12, d13, d14, d15, d16, d17⟩ := hoi
  clear d1 d2 d3 d4 d5 d6 d7 d8 d9 d10 d11 d12 d13 d14 d15 d16
  rw [HK.out] at d0
  have hbk : Below b W0 W2 := HBW.out.trans HS2.out.below
  have HBK := Lib.hid hbk
  clear hbk
  go_wp2_with fail
  refine (pids_any x.o.elems HX.out.elemsR hn x.eA x.ec W0 HX.out.elems _ b hW HBK.out T _ HP2.out (by have := HL.out; have := HN0.out; have := HN1.out; simp only [List.length_append]; omega)).mono ?_
  rintro e w3 ⟨rfl, hp3, hs3⟩
  have HPF : Hid (Par w3 b T (l ++ opP x.o)) := by
    show Par _ _ _ _
    have he : opP x.o = numB 4 ++ idP x.o.node ++ (numB (x.o.elems.length : Int) ++ x.o.elems.flatMap idP) := by unfold opP tailP; simp [HK.out]
    rw [he]
    simp only [List.append_assoc] at hp3 ⊢
    exact hp3
  have HSF := Lib.hid (HS2.out.trans hs3)
  clear hp3 hs3 d0 d17 hW2
  go_wp2
  refine bodyPost_end (results_none rfl _ _ _) rfl ?_
  exact ⟨rfl, HPF.out, HSF.out⟩

set_option maxRecDepth 100000 in
set_option maxHeartbeats 4000000 in
theorem pop_ins (x : OpR) (hk : x.o.kind = 3) (hn : x.o.text.length ≤ 1000000) (W0 : World) (hx : OpAt W0 x) (w : World) (b : Nat) (hW : W0.heap.size ≤ b) (hbw : Below b W0 w) (T : TypeId) (hT : T ≠ 5) (l : List UInt8) (hp : Par w b T l) (hl : l.length ≤ 500000000000) :
    Calls Try.prog 24 #[.pointer (some ⟨b, 0, none⟩), .agg x.cells.toArray] w fun e w' => e = .returned (.tuple #[]) ∧ Par w' b T (l ++ opP x.o) ∧ Stp b w w' := by
  have hbl := hp.lt
  have HK := Lib.hid hk
  have HX := Lib.hid hx
  have HL := Lib.hid hl
  have HBW := Lib.hid hbw
  have HTT := Lib.hid hT
  have HP0 := Lib.hid ((hp.keep (below_box (.cells x.cells.toArray 44))).keep (bdrew _))
  have HS0 := Lib.hid (((Stp.refl b w).alloc (.cells x.cells.toArray 44) hbl).drew (by simp; omega))
  have hbx : (w.alloc (.cells x.cells.toArray 44)).heap[w.heap.size]? = some (.cells x.cells.toArray 44 (0, 0)) := heap_alloc_new w _
  have HB0 : Hid ((w.alloc (.cells x.cells.toArray 44)).drew.heap[w.heap.size]? = some (.cells x.cells.toArray 44 (0, 0))) := hbx
  have HBX := Lib.hid hbx
  have hn0 := numB_len (n := 3) (by omega)
  have hn1 := idP_len hx.nodeR
  have HN0 := Lib.hid hn0
  have HN1 := Lib.hid hn1
  have hoi := op_box hbx
  obtain ⟨d0, d1, d2, d3, d4, d5, d6, d7, d8, d9, d10, d11, d12, d13, d14, d15, d16, d17⟩ := hoi
  rw [hk] at d0
  clear d1 d2 d3 d4 d5 d6 d7 d8 d9 d10 d11 d12 d13 d14 d15 d16 d17 hp hl hx hbw hbx hk hn0 hn1
  go_enter Try.func24, Try.ntmps24
  obtain ⟨W1, hW1⟩ : ∃ W1, w.alloc (.cells x.cells.toArray 44) = W1 := ⟨_, rfl⟩
  have hszW : W1.heap.size = w.heap.size + 1 := by rw [← hW1]; simp
  rw [hW1] at HP0 HS0 HB0 HBX d0
  go_wp2
  refine S5.still_tail 5 S5.mixed (by kernel_rfl) ?_
  simp only [List.take_succ_cons, List.take_zero, List.drop_succ_cons, List.drop_zero]
  repeat still_step
  refine wpStill_nil ?_
  go_wp2_with fail
  refine (pnat_any 3 (by omega) _ b T l HP0.out (by have := HL.out; omega)).mono ?_
  rintro e w1 ⟨rfl, hp1, hs1⟩
  have HP1 := Lib.hid hp1
  have HB1 := Lib.hid (hs1.box HP0.out HB0.out op_ne (by omega))
  have HS1 := Lib.hid (HS0.out.trans hs1)
  clear hp1 hs1 d0 HBX hW1 hszW HP0 HB0 HS0
  have hoi := op_box HB1.out
  obtain ⟨d0, d1, d2, d3, d4, d5, d6, d7, d8, d9, d10, d11, d12, d13, d14, d15, d16, d17⟩ := hoi
  clear d4 d5 d6 d7 d8 d9 d10 d11 d12 d13 d14 d15 d16 d17
  rw [HK.out] at d0
  go_wp2_with fail
  refine (pid_any x.o.node HX.out.nodeR _ b T _ HP1.out (by have := HL.out; have := HN0.out; simp only [List.length_append]; omega)).mono ?_
  rintro e w2 ⟨rfl, hp2, hs2⟩
  have hpl2 := hp2.lt
  have HPA := Lib.hid hp2
  have HP2 := Lib.hid (hp2.keep (below_box (.cells #[.slice none 0 0] 50)))
  have HB2 := hs2.box HP1.out HB1.out op_ne (by omega)
  have HBS := Lib.hid ((Array.getElem?_eq_some_iff.1 HB2).1)
  replace HB2 := Lib.hid ((Below.heap_alloc w2 (.cells #[.slice none 0 0] 50) w.heap.size HBS.out).trans HB2)
  have HSA := Lib.hid (HS1.out.trans hs2)
  have HS2 := Lib.hid ((HS1.out.trans hs2).alloc (.cells #[.slice none 0 0] 50) hpl2)
  have hdn := heap_alloc_new w2 (.cells #[.slice none 0 0] 50)
  have HD2 := Lib.hid hdn
  obtain ⟨W2, hW2⟩ : ∃ W2, w2.alloc (.cells #[.slice none 0 0] 50) = W2 := ⟨_, rfl⟩
  have hsz2 : W2.heap.size = w2.heap.size + 1 := by rw [← hW2]; simp
  rw [hW2] at HP2 HB2 HS2 HD2
  clear hp2 hs2 d0 d1 d2 d3 HP1 HB1 HS1 hdn
  have hoi := op_box HB2.out
  obtain ⟨d0, d1, d2, d3, d4, d5, d6, d7, d8, d9, d10, d11, d12, d13, d14, d15, d16, d17⟩ := hoi
  clear d1 d2 d3 d4 d5 d6 d7 d8 d9 d13 d14 d15 d16 d17
  rw [HK.out] at d0
  have ha := idP_len HX.out.afterR
  have he := idP_len HX.out.elemR
  have HA := Lib.hid ha
  have HE := Lib.hid he
  clear ha he
  go_wp2_with fail
  refine (pid_any x.o.after HX.out.afterR _ b T _ HP2.out (by have := HL.out; have := HN0.out; have := HN1.out; simp only [List.length_append]; omega)).mono ?_
  rintro e w3 ⟨rfl, hp3, hs3⟩
  have HP3 := Lib.hid hp3
  have HB3 := Lib.hid (hs3.box HP2.out HB2.out op_ne (by omega))
  have HS3 := Lib.hid (HS2.out.trans hs3)
  clear hp3 hs3 d0 d10 d11 d12 hW2
  have hoi := op_box HB3.out
  obtain ⟨d0, d1, d2, d3, d4, d5, d6, d7, d8, d9, d10, d11, d12, d13, d14, d15, d16, d17⟩ := hoi
  clear d0 d1 d2 d3 d4 d5 d6 d7 d8 d9 d10 d11 d12 d16 d17
  go_wp2_with fail
  refine (pid_any x.o.elem HX.out.elemR _ b T _ HP3.out (by have := HL.out; have := HN0.out; have := HN1.out; have := HA.out; simp only [List.length_append]; omega)).mono ?_
  rintro e w4 ⟨rfl, hp4, hs4⟩
  have hpl4 := hp4.lt
  have HB4 := HB3.out
  have HB5 := Lib.hid (hs4.box HP3.out HB3.out op_ne (by omega))
  have HP4 := Lib.hid (hp4.keep (bdrew w4))
  have HS4 := Lib.hid ((HS3.out.trans hs4).drew hpl4)
  clear hp4 hs4 d13 d14 d15 HB4
  have hoi := op_box HB5.out
  obtain ⟨d0, d1, d2, d3, d4, d5, d6, d7, d8, d9, d10, d11, d12, d13, d14, d15, d16, d17⟩ := hoi
  clear d0 d1 d2 d3 d4 d5 d6 d7 d8 d9 d10 d11 d12 d13 d14 d15 d17
  go_wp2
  refine S5.still_tail 5 S5.mixed (by kernel_rfl) ?_
  simp only [List.take_succ_cons, List.take_zero, List.drop_succ_cons, List.drop_zero]
  repeat still_step
  refine wpStill_nil ?_
  go_wp2_with fail
  refine (ptext_any x.o.text hn _ b T _ HP4.out (by have := HL.out; have := HN0.out; have := HN1.out; have := HA.out; have := HE.out; simp only [List.length_append]; omega)).mono ?_
  rintro e w5 ⟨rfl, hp5, hs5⟩
  have HPF : Hid (Par w5 b T (l ++ opP x.o)) := by
    show Par _ _ _ _
    have he : opP x.o = numB 3 ++ idP x.o.node ++ (idP x.o.after ++ idP x.o.elem ++ bytesB x.o.text) := by unfold opP tailP; simp [HK.out]
    rw [he]
    simp only [List.append_assoc] at hp5 ⊢
    exact hp5
  have HSF := Lib.hid (HS4.out.trans hs5)
  clear hp5 hs5 d16
  go_wp2
  refine bodyPost_end (results_none rfl _ _ _) rfl ?_
  exact ⟨rfl, HPF.out, HSF.out⟩

end Go.Proofs.Ytphnimmhjnhajaa.W8

