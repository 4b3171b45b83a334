/-
  Layer 8, walks of the program: Encode.
-/
import Derived.Test.YtphnimmhjnhajaaKW10f
namespace Go.Proofs.Ytphnimmhjnhajaa.W8
open Go.RowKit Go.PlainAid M8 V1
set_option linter.unusedVariables false

theorem fit_of {g : Grp} {k : Int} {o : Opn} {n : Nat} (h : opN g k o = some n) (h1 : o.name.length ≤ 1000000) (h2 : o.text.length ≤ 1000000) : OpFit o := by
  unfold opN at h
  split at h
  · rename_i hk
    split at h
    · rename_i hc
      simp only [Bool.and_eq_true] at hc
      obtain ⟨b1, b2, b3, b4, b5⟩ := bare_parts hc.2
      exact ⟨.inl hk, h1, h2, by rw [b3 rfl]; simp, by rw [b5 rfl]; simp⟩
    · cases h
  · split at h
    · rename_i hk
      split at h
      · rename_i hc
        simp only [Bool.and_eq_true] at hc
        obtain ⟨b1, b2, b3, b4, b5⟩ := bare_parts hc.2
        exact ⟨.inr (.inl hk), h1, h2, by rw [b3 rfl]; simp, by rw [b5 rfl]; simp⟩
      · cases h
    · split at h
      · rename_i hk
        split at h
        · rename_i hc
          simp only [Bool.and_eq_true, decide_eq_true_eq] at hc
          obtain ⟨b1, b2, b3, b4, b5⟩ := bare_parts hc.2
          exact ⟨.inr (.inr (.inl hk)), h1, h2, by have := hc.1.2.2; omega, by rw [b5 rfl]; simp⟩
        · cases h
      · split at h
        · rename_i hk
          split at h
          · cases h
          · split at h
            · rename_i hc
              simp only [Bool.and_eq_true, decide_eq_true_eq] at hc
              obtain ⟨b1, b2, b3, b4, b5⟩ := bare_parts hc.2
              exact ⟨.inr (.inr (.inr (.inl hk))), h1, h2, by rw [b3 rfl]; simp, by rw [b5 rfl]; simp⟩
            · cases h
        · split at h
          · rename_i hk
            split at h
            · rename_i hc
              simp only [Bool.and_eq_true, decide_eq_true_eq] at hc
              obtain ⟨b1, b2, b3, b4, b5⟩ := bare_parts hc.2
              exact ⟨.inr (.inr (.inr (.inr hk))), h1, h2, by rw [b3 rfl]; simp, by have := hc.1.2.2.2; omega⟩
            · cases h
          · cases h
theorem ops_fit {g : Grp} : ∀ (l : List Opn) (k : Int), opsB g k l = true → (∀ o ∈ l, o.name.length ≤ 1000000 ∧ o.text.length ≤ 1000000) → ∀ o ∈ l, OpFit o := by
  intro l
  induction l with
  | nil => intro _ _ _ o ho; cases ho
  | cons a l ih =>
    intro k h hs o ho
    unfold opsB at h
    cases hn : opN g k a with
    | none => rw [hn] at h; cases h
    | some n =>
      rw [hn] at h
      rcases List.mem_cons.1 ho with rfl | ho
      · exact fit_of hn (hs _ (by simp)).1 (hs _ (by simp)).2
      · exact ih (k + n) h (fun x hx => hs x (by simp [hx])) o ho
/-- What is asked of a group ahead of its bytes being made: nothing in it is endless. -/
structure Fit (G : GrpR) : Prop where
  deps : G.deps.length ≤ 1000000
  ops : G.xs.length ≤ 200 → ∀ x ∈ G.xs, x.o.name.length ≤ 1000000 ∧ x.o.text.length ≤ 1000000
theorem check_ops {g : Grp} (h : check g = true) : g.ops.length ≤ 200 ∧ (g.ops = [] ∨ opsB g 0 g.ops = true) := by
  unfold check at h
  simp only [Bool.and_eq_true] at h
  have h6 := h.2
  split at h6
  · simp only [Bool.and_eq_true, decide_eq_true_eq] at h6
    exact ⟨h6.1.2, .inr h6.2⟩
  · simp only [Bool.and_eq_true, decide_eq_true_eq] at h6
    rw [h6.2]
    exact ⟨by simp, .inl rfl⟩
theorem Fit.each {G : GrpR} (h : Fit G) (hc : check G.g = true) : G.xs.length ≤ 200 ∧ ∀ x ∈ G.xs, OpFit x.o := by
  obtain ⟨h1, h2⟩ := check_ops hc
  have hl : G.xs.length ≤ 200 := by
    have : (G.xs.map OpR.o).length ≤ 200 := h1
    rwa [List.length_map] at this
  refine ⟨hl, fun x hx => ?_⟩
  have hm : x.o ∈ G.g.ops := List.mem_map.2 ⟨x, hx, rfl⟩
  rcases h2 with h2 | h2
  · rw [h2] at hm; cases hm
  · refine ops_fit G.g.ops 0 h2 (fun o ho => ?_) _ hm
    obtain ⟨y, hy, rfl⟩ := List.mem_map.1 ho
    exact h.ops hl y hy
theorem fit_deps {w : World} {G : GrpR} (hG : GrpAt w G) : ∀ n ∈ G.g.deps, n ≤ 9223372036854775807 := fun n hn => (hG.depsR n hn).2
/-- Encode's answer. -/
def encV (g : Grp) : Value := if check g = true then .tuple #[.string (bs (spell g)), .int .i64 0] else .tuple #[.string ⟨#[]⟩, .int .i64 80]

set_option maxRecDepth 100000 in
set_option maxHeartbeats 4000000 in
theorem enc_any (G : GrpR) (w : World) (hG : GrpAt w G) (hf : Fit G) : Calls Try.prog 8 #[.agg G.cells.toArray] w fun e w' => e = .returned (encV G.g) ∧ Below w.heap.size w w' := by
  have H0 := HG.new w G
  have hG1 := hG.keep (below_box (.cells G.cells.toArray 27))
  obtain ⟨W0, hW⟩ : ∃ W0, w.alloc (.cells G.cells.toArray 27) = W0 := ⟨_, rfl⟩
  rw [hW] at H0 hG1
  have HH := Lib.hid H0
  have HG1 := Lib.hid hG1
  have HGW := Lib.hid hG
  have HFT := Lib.hid hf
  have HC : Hid (∀ w, GrpAt w G → Calls Try.prog 11 #[.agg #[.int .i64 G.t, .int .i64 G.r, .int .i64 G.n, .slice G.dA G.deps.length G.dc, .int .i64 G.ut, .int .i64 G.ur, .slice G.oA G.xs.length G.oc]] w fun e w' => e = .returned (.int .i64 (if check G.g = true then 0 else 80)) ∧ Below w.heap.size w w') := fun w h => check_any G w h (by have := hf.deps; omega) (fun hl x hx => by have := (hf.ops hl x hx).2; omega)
  obtain ⟨⟨d0, d1, d2, d3, d4, d5, d6⟩, hlt, hbl⟩ := H0
  clear hlt hbl hG hG1 hf
  unfold encV
  cases hc : check G.g with
  | false =>
    rw [hc] at HC
    clear hc
    go_enter Try.func8, Try.ntmps8
    go_wp2_with fail
    refine (HC.out _ HG1.out).mono ?_
    rintro e w1 ⟨rfl, hb1⟩
    have HB := Lib.hid (chain HH.out.2.2 hb1)
    clear d0 d1 d2 d3 d4 d5 d6 hb1 hW HC
    go_wp2
    go_ret2
    exact ⟨rfl, HB.out⟩
  | true =>
    rw [hc] at HC
    have HCK := Lib.hid hc
    clear hc
    go_enter Try.func8, Try.ntmps8
    go_wp2_with fail
    refine (HC.out _ HG1.out).mono ?_
    rintro e w1 ⟨rfl, hb1⟩
    have hH1 := HH.out.keep hb1
    have hH2 := hH1.keep (below_box (.cells #[.slice none 0 0] 52))
    have HB := Lib.hid hH1.2.2
    have HA := Lib.hid (HGW.out)
    have hp := Par.new w1 52
    have hbs : Below w1.heap.size w1 (w1.alloc (.cells #[.slice none 0 0] 52)) := below_box _
    have HE : Hid (∀ w b, w1.heap.size ≤ b → Below b w1 w → Par w b 52 [] → Calls Try.prog 14 #[.pointer (some ⟨b, 0, none⟩), .agg #[.int .i64 G.t, .int .i64 G.r, .int .i64 G.n, .slice G.dA G.deps.length G.dc, .int .i64 G.ut, .int .i64 G.ur, .slice G.oA G.xs.length G.oc]] w fun e w' => e = .returned (.tuple #[]) ∧ Par w' b 52 (grpP G.g) ∧ Stp b w w') := by
      intro w3 b h1 h2 h3
      have hG2 := HG1.out.keep hb1
      obtain ⟨h4, h5⟩ := HFT.out.each HCK.out
      exact pgroup_any G w1 hG2 HFT.out.deps h4 h5 w3 b h1 h2 52 (by decide) h3
    have HPP := Lib.hid hp
    have HBS := Lib.hid hbs
    obtain ⟨W2, hW2⟩ : ∃ W2, w1.alloc (.cells #[.slice none 0 0] 52) = W2 := ⟨_, rfl⟩
    rw [hW2] at HPP HBS hH2
    obtain ⟨⟨p0, p1, p2, p3, p4, p5, p6⟩, _, _⟩ := hH1
    obtain ⟨⟨e0, e1, e2, e3, e4, e5, e6⟩, _, _⟩ := hH2
    clear d0 d1 d2 d3 d4 d5 d6 hb1 hW HC hp hbs
    go_wp2_with fail
    refine (HE.out _ _ (Nat.le_refl _) HBS.out HPP.out).mono ?_
    rintro e w3 ⟨rfl, hp3, hs3⟩
    have HBF := Lib.hid (HB.out.trans ((HBS.out.trans hs3.below).mono HB.out.size))
    obtain ⟨v, h1, h2⟩ := hp3
    have hcv := own_string h2
    have hq := (cell_of_row w3 w1.heap.size 0 _ _ (0, 0) h1).trans (show (#[v] : Array Value)[0]? = some v from rfl)
    have hsp : grpP G.g = spell G.g := grpE_of (check_dom HCK.out (fit_deps HGW.out))
    have HSP := Lib.hid hsp
    clear h1 h2 hs3 p0 p1 p2 p3 p4 p5 p6 e0 e1 e2 e3 e4 e5 e6 hW2 hsp HE HPP HBS
    go_wp2
    go_ret2
    exact ⟨by rw [← HSP.out]; rfl, HBF.out⟩

end Go.Proofs.Ytphnimmhjnhajaa.W8

