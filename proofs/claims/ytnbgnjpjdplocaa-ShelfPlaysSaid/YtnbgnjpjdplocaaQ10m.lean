/-
  Layer 10, walks: Clone; a block is parted.
-/
import Derived.Test.YtnbgnjpjdplocaaQ10l
namespace Go.Proofs.Ytnbgnjpjdplocaa.Q10
open Go.RowKit Go.PlainAid
set_option linter.unusedVariables false
set_option linter.unusedSimpArgs false

set_option maxRecDepth 100000 in
set_option maxHeartbeats 1000000 in
theorem clone_any (b off n c : Nat) (l : List En) (w : World) (hl : l.length = n) (hn : n ≤ 1000000) (hrd : ∀ j u, (ens l)[j]? = some u → w.cell? ⟨b, off + j, none⟩ = some u) (hb : b < w.heap.size) :
    Calls Try.prog 35 #[.slice (some ⟨b, off, none⟩) n c] w fun e w' => ∃ v', e = .returned v' ∧ w'.ownsRow 0 63 4 v' n (ens l) ∧ Below w.heap.size w w' ∧ ∃ g, v'.ownBlock = some g ∧ w.heap.size ≤ g := by
  obtain ⟨i0, hi, hz0, hz1, hz2⟩ := info_parts infoE
  have HO := Lib.hid (World.ownsRow_made (base := 0) (e := 63) (size := 4) w #[] 0 (Nat.zero_le _) (by unfold maxLen; omega) (by simp))
  have HR : Hid (∀ j u, (ens l)[j]? = some u → (w.alloc (.cells #[] 63)).cell? ((⟨b, off, none⟩ : Addr).add j) = some u) := fun j u hu => by
    rw [Addr.add_mid]
    exact ((Below.refl w.heap.size w).alloc (Nat.le_refl _) _).cell (p := ⟨b, off + j, none⟩) hb |>.trans (hrd j u hu)
  have hel := ens_len l
  have h1 := ens_one l
  clear hrd
  have q22 : ∀ (w : World) (a : Option Addr) (n c n' c' : Nat), (binOp .eql 55 (.slice a n c) (.slice none n' c')).run Try.prog w = .ok (.bool a.isNone) w := fun w a n c n' c' => Lib.run_eql_slice_nil w _ _ a n c n' c' Try.underlying55
  go_enter Try.func35, Try.ntmps35
  go_wp2_with (at_builtin; refine wpList_append_own_at _ rfl _ _ 55 rfl 0 63 i0 (.agg #[.int .i64 0, .int .i64 0, .int .i64 0, .bool false]) 4 32 Try.underlying55 hi hz0 hz1 hz2 rfl (by decide) (.slice (some ⟨w.heap.size, 0, none⟩) 0 0) 0 [] rfl HO.out ⟨b, off, none⟩ n c (ens l) rfl (by omega) HR.out h1 (by unfold maxLen; omega) (by omega) (Nat.zero_le _) ?_; intro v' w1 hown1 hg1 hnil hloc)
  go_ret
  refine ⟨v', rfl, by simpa using hown1, ?_, ?_⟩
  · exact ((Below.refl w.heap.size w).alloc (Nat.le_refl _) _).grown hg1 (by simp) (fun k hk => by cases hk; exact Nat.le_refl _)
  · rcases hloc with h | h
    · exact ⟨w.heap.size, by rw [h]; rfl, Nat.le_refl _⟩
    · exact ⟨w.heap.size + 1, by rw [h]; simp, by omega⟩

/-- The map while a block is parted: of its second half j ids have gone over. -/
def mid (A : List (Nm × Nat)) (es : List En) (h p q j : Nat) (B : List (Nm × Nat)) : List (Nm × Nat) :=
  A ++ ((es.take h).map (fun e => (e.1, p)) ++ (((es.drop h).take j).map (fun e => (e.1, q)) ++ (((es.drop h).drop j).map (fun e => (e.1, p)) ++ B)))
theorem mid_zero (A : List (Nm × Nat)) (es : List En) (h p q : Nat) (B : List (Nm × Nat)) : mid A es h p q 0 B = A ++ (es.map (fun e => (e.1, p)) ++ B) := by
  unfold mid
  simp only [List.take_zero, List.map_nil, List.nil_append, List.drop_zero]
  conv => rhs; rw [← List.take_append_drop h es]
  rw [List.map_append, List.append_assoc]
theorem mid_end (A : List (Nm × Nat)) (es : List En) (h p q : Nat) (B : List (Nm × Nat)) : mid A es h p q (es.drop h).length B = A ++ ((es.take h).map (fun e => (e.1, p)) ++ ((es.drop h).map (fun e => (e.1, q)) ++ B)) := by
  unfold mid
  rw [List.take_length, List.drop_length]; rfl
theorem mid_step (A : List (Nm × Nat)) (es : List En) (h p q : Nat) (B : List (Nm × Nat)) {j : Nat} (hj : j < (es.drop h).length) :
    ∃ R, (mid A es h p q j B).Perm (((es.drop h)[j].1, p) :: R) ∧ (mid A es h p q (j + 1) B).Perm (((es.drop h)[j].1, q) :: R) := by
  refine ⟨A ++ ((es.take h).map (fun e => (e.1, p)) ++ (((es.drop h).take j).map (fun e => (e.1, q)) ++ (((es.drop h).drop (j + 1)).map (fun e => (e.1, p)) ++ B))), ?_, ?_⟩
  · unfold mid
    rw [List.drop_eq_getElem_cons hj, List.map_cons]
    refine ((((List.perm_middle (l₁ := ((es.drop h).take j).map (fun e => (e.1, q)))).append_left _).append_left _)).trans ?_
    refine ((List.perm_middle.append_left _)).trans ?_
    exact List.perm_middle
  · unfold mid
    rw [List.take_succ_eq_append_getElem hj, List.map_append, List.append_assoc]
    refine ((((List.perm_middle (l₁ := ((es.drop h).take j).map (fun e => (e.1, q)))).append_left _).append_left _)).trans ?_
    refine ((List.perm_middle.append_left _)).trans ?_
    exact List.perm_middle
theorem mid_len (A : List (Nm × Nat)) (es : List En) (h p q j : Nat) (B : List (Nm × Nat)) : (mid A es h p q j B).length = A.length + es.length + B.length := by
  have : es.length = (es.take h).length + ((es.drop h).take j).length + ((es.drop h).drop j).length := by
    conv => lhs; rw [← List.take_append_drop h es, ← List.take_append_drop j (es.drop h)]
    simp only [List.length_append]; omega
  unfold mid
  simp only [List.length_append, List.length_map]
  omega

/-- How a block is parted, in memory. -/
structure PartAt (S : Sf) (n : Nat) (hn : n < S.bks.length) (w w' : World) (q : Nat) (v1 v2 bv' : Value) : Prop where
  box : w'.heap[S.s]? = some (.cells #[bv', .map (some S.hb)] 61 (0, 0))
  row : w'.ownsRow 0 54 1 bv' (S.bks.length + 1) (ins (ptrs S.bks) [.pointer (some ⟨q, 0, none⟩)] (n + 1))
  b1 : Bk.At ⟨S.bks[n].p, v1, S.bks[n].es.take (S.bks[n].es.length / 2)⟩ w'
  b2 : Bk.At ⟨q, v2, S.bks[n].es.drop (S.bks[n].es.length / 2)⟩ w'
  ob1 : obs v1 = obs S.bks[n].v
  new2 : w.heap.size ≤ q ∧ (∀ g, v2.ownBlock = some g → w.heap.size ≤ g ∧ g ≠ q)
  newb : bv'.ownBlock = S.bv.ownBlock ∨ ∃ g, bv'.ownBlock = some g ∧ w.heap.size ≤ g ∧ g ≠ q ∧ v2.ownBlock ≠ some g
  home : Home w' S.hb (mid (asg (S.bks.take n)) S.bks[n].es (S.bks[n].es.length / 2) S.bks[n].p q (S.bks[n].es.drop (S.bks[n].es.length / 2)).length (asg (S.bks.drop (n + 1))))
  turn : Turn (fun k => k = S.s ∨ k = S.hb ∨ k ∈ obs S.bv ∨ k = S.bks[n].p) w w'

theorem own_take {w : World} {g n c k : Nat} {l : List En} (h : w.ownsRow 0 63 4 (.slice (some ⟨g, 0, none⟩) n c) n (ens l)) (hk : k ≤ n) (hl : l.length = n) : w.ownsRow 0 63 4 (.slice (some ⟨g, 0, none⟩) k c) k (ens (l.take k)) := by
  refine ⟨by rw [ens_len, List.length_take]; omega, .inr ?_⟩
  rcases h.2 with ⟨h0, _⟩ | ⟨g', cap, cur, e, hb, hh, h1, h2, h3, h4⟩
  · cases h0
  · cases e
    refine ⟨g, c, cur, rfl, hb, hh, by omega, h2, h3, ?_⟩
    rw [← ens_take, ← h4, List.take_take, Nat.min_eq_left (by omega)]

set_option maxRecDepth 100000 in
set_option maxHeartbeats 4000000 in
theorem part_walk (S : Sf) (n : Nat) (hn : n < S.bks.length) (w : World) (h : ShAt S w) (he : 2 ≤ S.bks[n].es.length) (hsz : S.bks.length ≤ (flat S.bks).length) :
    Calls Try.prog 27 #[.pointer (some ⟨S.s, 0, none⟩), .int .i64 (n : Int)] w fun e w' => e = .returned (.tuple #[]) ∧ ∃ q v1 v2 bv', PartAt S n hn w w' q v1 v2 bv' := by
  have hat := h.each S.bks[n] (List.getElem_mem hn)
  obtain ⟨g, cap, cur, hv, hh, hnc, hcm, hsz4, htk⟩ := own_mid hat.2 (by omega)
  obtain ⟨A, c, c0, c1, hr, hc, hm, hbv⟩ := h.facts
  obtain ⟨p1, p2, p3, p4, p5⟩ := h.parts
  have hfm : ∀ k ∈ S.bks[n].foot, k ∈ S.bks.flatMap Bk.foot := fun k hk => List.mem_flatMap.2 ⟨_, List.getElem_mem hn, hk⟩
  obtain ⟨pb, hpb⟩ : ∃ p, p = S.bks[n].p := ⟨_, rfl⟩
  obtain ⟨es, hes⟩ : ∃ es, es = S.bks[n].es := ⟨_, rfl⟩
  have hpf : pb ∈ S.bks.flatMap Bk.foot := hfm _ (by rw [hpb]; simp [Bk.foot])
  have hgf : g ∈ S.bks.flatMap Bk.foot := hfm _ (by simp only [Bk.foot, List.mem_cons, mem_obs, hv]; right; rfl)
  have hps := p2 pb hpf
  have hgs := p2 g hgf
  have hgp : g ≠ pb := by
    intro e
    have ha := h.apart
    rw [foot_split S hn] at ha
    have hnf := (List.nodup_append.1 (List.nodup_append.1 (List.nodup_append.1 (List.nodup_append.1 ha).2.1).2.1).2.1).1
    have := (List.nodup_cons.1 hnf).1
    rw [mem_obs, hv, ← hpb, ← e] at this
    exact this rfl
  have hlt : ∀ k ∈ S.foot, k < w.heap.size := h.foot_lt
  have hsl : S.s < w.heap.size := heap_lt h.box
  have hpl : pb < w.heap.size := by rw [hpb]; exact heap_lt hat.1
  have hgl : g < w.heap.size := heap_lt hh
  have hbl : S.hb < w.heap.size := h.home.lt
  have hfew := h.few
  have hfw := es_few hn
  rw [← hes] at hfw he
  have hbox := hat.1
  have hown := hat.2
  rw [hv, ← hpb, ← hes] at hbox
  rw [hv, ← hes] at hown
  rw [← hes] at hnc
  obtain ⟨b0, off0, hA0, hb0, q0⟩ := ptrs_cell hr hn
  rw [← hpb] at q0
  obtain ⟨hf, hhf⟩ : ∃ hf, hf = es.length / 2 := ⟨_, rfl⟩
  have hf1 : hf ≤ es.length := by omega
  have hf2 : hf < cap := by omega
  have hfz : ((es.length : Int)) / 2 = (hf : Int) := by omega
  have d0 := cells_at hbox 0
  have f0 := frozen_at hbox 0
  -- the copy
  have CL : Hid (Calls Try.prog 35 #[.slice (some ⟨g, hf * 4, none⟩) (es.length - hf) (cap - hf)] w fun e w' => ∃ v', e = .returned v' ∧ w'.ownsRow 0 63 4 v' (es.length - hf) (ens (es.drop hf)) ∧ Below w.heap.size w w' ∧ ∃ g, v'.ownBlock = some g ∧ w.heap.size ≤ g) :=
    clone_any g (hf * 4) (es.length - hf) (cap - hf) (es.drop hf) w (by rw [List.length_drop]) (by omega) (fun j u hu => by
      rw [← ens_drop, List.getElem?_drop] at hu
      have := hown.cells (g := g) rfl _ _ hu
      rw [add0] at this
      exact this) hgl
  subst hA0
  have HS := Lib.hid h
  have HBX := Lib.hid hbox
  have HOW := Lib.hid hown
  have HPS := Lib.hid (And.intro hps hgs)
  have HPB := Lib.hid hpb
  have HV := Lib.hid hv
  have HES := Lib.hid hes
  have HBV := Lib.hid hbv
  have HHF := Lib.hid hhf
  have HP := Lib.hid (And.intro p3 (And.intro p4 p5))
  clear h hat hv hh hsz4 htk hbox hown hps hgs p1 p2 p3 p4 p5 hfm hpf hgf c1 hr hpb hes hbv hhf
  go_enter Try.func27, Try.ntmps27
  go_wp2_with fail
  refine (CL.out).mono ?_
  rintro e w1 ⟨v2, rfl, ho2, hb1, g2, hg2, hgn2⟩
  obtain ⟨g2', c2, cur2, rfl, hh2, hnc2, hcm2, -, -⟩ := own_mid ho2 (by omega)
  obtain rfl : g2' = g2 := by simpa [Value.ownBlock] using hg2
  clear hg2
  have hp1 := (hb1.block pb hpl).trans HBX.out
  have d1 := cells_at hp1 0
  have f1 := frozen_at hp1 0
  have hpl1 := heap_lt hp1
  have hql : g2' < w1.heap.size := heap_lt hh2
  have hcap0 : ¬ (cap = 0) := by omega
  have hcapz : (hf : Int) ≤ (cap : Int) := by omega
  have ho1 := own_take (HOW.out.kept (grown_of hb1 none) (by simp [Value.ownBlock])) hf1 rfl
  obtain ⟨W3, hW3⟩ : ∃ W3, W3 = (w1.setCell ⟨pb, 0, none⟩ (.slice (some ⟨g, 0, none⟩) hf cap)).alloc (.cells #[.slice (some ⟨g2', 0, none⟩) (es.length - hf) c2, .int .i64 0] 57) := ⟨_, rfl⟩
  have hs1 : (w1.setCell ⟨pb, 0, none⟩ (.slice (some ⟨g, 0, none⟩) hf cap)).heap.size = w1.heap.size := by simp [World.setCell]
  have hpq : pb ≠ w1.heap.size := by omega
  have tn3 : Turn (fun k => k = pb) w W3 := by
    rw [hW3]
    exact ((Turn.of_below hb1 (fun k => k = pb)).trans (Turn.of_grown (setCell_grown w1 pb 0 _) (F := fun k => k = pb) (fun k hk => by cases hk; rfl)) (fun i _ h => h)).trans (Turn.of_grown (World.grownBy_alloc _ _ none) (F := fun k => k = pb) (fun k hk => by cases hk)) (fun i _ h => h)
  have hp3 : W3.heap[pb]? = some (.cells #[.slice (some ⟨g, 0, none⟩) hf cap, .int .i64 (seenN es)] 57 (0, 0)) := by rw [hW3]; exact heap_past (set2_heap0 hp1 _) _
  have hq3 : W3.heap[w1.heap.size]? = some (.cells #[.slice (some ⟨g2', 0, none⟩) (es.length - hf) c2, .int .i64 0] 57 (0, 0)) := by
    rw [hW3, ← hs1]; exact heap_alloc_new _ _
  have o13 : W3.ownsRow 0 63 4 (.slice (some ⟨g, 0, none⟩) hf cap) hf (ens (es.take hf)) := by
    rw [hW3]
    exact (ho1.kept (setCell_grown w1 pb 0 _) (.inr (by simp [Value.ownBlock]; exact hgp))).alloc _
  have o23 : W3.ownsRow 0 63 4 (.slice (some ⟨g2', 0, none⟩) (es.length - hf) c2) (es.length - hf) (ens (es.drop hf)) := by
    rw [hW3]
    exact (ho2.kept (setCell_grown w1 pb 0 _) (.inr (by simp [Value.ownBlock]; omega))).alloc _
  have hlt3 : (es.take hf).length = hf := by rw [List.length_take]; omega
  have hld3 : (es.drop hf).length = es.length - hf := by rw [List.length_drop]
  have C1 := Lib.hid (blkCount_any pb _ _ (es.take hf) W3 hp3 (by rw [hlt3]; exact o13) (by omega))
  have F3 := Lib.hid (And.intro tn3 (And.intro hq3 (And.intro o13 o23)))
  have HW3 : Hid ((w1.setCell ⟨pb, 0, none⟩ (.slice (some ⟨g, 0, none⟩) hf cap)).alloc (.cells #[.slice (some ⟨g2', 0, none⟩) (es.length - hf) c2, .int .i64 0] 57) = W3) := hW3.symm
  have HL3 := Lib.hid (And.intro hlt3 hld3)
  clear hW3 tn3 hp3 hq3 o13 o23 ho1 ho2 hh2 hlt3 hld3 hs1 hp1
  go_wp2_with fail
  rw [HW3.out]
  refine (C1.out).mono ?_
  rintro e w4 ⟨rfl, hp4, hg4⟩
  obtain ⟨tn3, hq3, o13, o23⟩ := F3.out
  have hq4 := (hg4.block _ (heap_lt hq3) (by simp; omega)).trans hq3
  have o14 := o13.kept hg4 (.inr (by simp [Value.ownBlock]; exact hgp))
  have o24 := o23.kept hg4 (.inr (by simp [Value.ownBlock]; omega))
  have C2 := Lib.hid (blkCount_any w1.heap.size _ _ (es.drop hf) w4 hq4 (by rw [HL3.out.2]; exact o24) (by rw [HL3.out.2]; omega))
  have tn4 := tn3.trans (Turn.of_grown hg4 (F := fun k => k = pb) (fun k hk => by cases hk; rfl)) (fun i _ h => h)
  have F4 := Lib.hid (And.intro tn4 (And.intro hp4 (And.intro o14 (And.intro o24 (heap_lt hq4)))))
  clear tn3 hq3 o13 o23 hq4 o14 o24 tn4 hp4 hg4 F3
  go_wp2_with fail
  refine (C2.out).mono ?_
  rintro e w5 ⟨rfl, hq5, hg5⟩
  obtain ⟨tn4, hp4, o14, o24, hql4⟩ := F4.out
  have hp5 := (hg5.block _ (heap_lt hp4) (by simp; omega)).trans hp4
  have o15 := o14.kept hg5 (.inr (by simp [Value.ownBlock]; omega))
  have o25 := o24.kept hg5 (.inr (by simp [Value.ownBlock]; omega))
  have tn5 : Turn (fun k => k = pb) w w5 := tn4.trans (Turn.of_grown hg5 (F := fun k => k = w1.heap.size) (fun k hk => by cases hk; rfl)) (fun i hi h => by have := hb1.size; omega)
  have hs5 := (tn5.block S.s hsl (fun e => HPS.out.1.1 e.symm)).trans HS.out.box
  have e0 := cells_at hq5 0
  have e1 := cells_at hs5 1
  have hm5 := HS.out.home.turn tn5 (fun e => HPS.out.1.2.1 e.symm)
  have hw5 := heap_lt hq5
  have F5 := Lib.hid (And.intro tn5 (And.intro hp5 (And.intro hq5 (And.intro o15 (And.intro o25 hs5)))))
  have hm6 : Hid (Home w5 S.hb (mid (asg (S.bks.take n)) es hf pb w1.heap.size 0 (asg (S.bks.drop (n + 1))))) := by
    show Home _ _ _
    rw [mid_zero, HES.out, HPB.out, ← asg_split hn]
    exact hm5
  clear tn4 hp4 o14 o24 hql4 F4 hp5 o15 o25 tn5 hq5 hg5 hm5 hs5 d0 f0 d1 f1
  have hml : Hid (∀ j, (mid (asg (S.bks.take n)) es hf pb w1.heap.size j (asg (S.bks.drop (n + 1)))).length ≤ 1000000) := by
    intro j
    have := congrArg List.length (flat_split hn)
    simp only [List.length_append] at this
    rw [mid_len, asg_len, asg_len, HES.out]
    omega
  have hsp1 : S.s ≠ S.hb := HP.out.1
  clear hpl1 hpq CL HW3 C1 C2 HBX HOW
  go_wp2
  go_loopw [49] (fun ix wr => ∃ j : Nat, j ≤ es.length - hf ∧ ix = .int .i64 (j : Int) ∧ Hid (Home wr S.hb (mid (asg (S.bks.take n)) es hf pb w1.heap.size j (asg (S.bks.drop (n + 1))))) ∧ Hid (Turn (fun k => k = S.hb) w5 wr)) (fun i _ => (es.length - hf) - (intOf i).toNat)
  case atStart => exact ⟨0, by omega, rfl, hm6, Turn.refl _ _⟩
  case round =>
    clear hm6 e0 e1
    obtain ⟨j, hj, rfl, HM, HT⟩ := hrel
    obtain ⟨tn5, hp5, hq5, o15, o25, hs5⟩ := F5.out
    have hqh : w1.heap.size ≠ S.hb := by have := hb1.size; omega
    have e0 := cells_at ((HT.out.block _ (heap_lt hq5) hqh).trans hq5) 0
    have hs6 := (HT.out.block S.s (heap_lt hs5) hsp1).trans hs5
    have e1 := cells_at hs6 1
    have e2 := cells_at hs6 0
    have o26 := own_turn o25 HT.out (fun g hg e => by cases hg; have e' : g2' = S.hb := e; omega)
    by_cases hlt : j < es.length - hf
    · obtain ⟨A2, c2', hv2, hr2, -⟩ := own_rd o26
      cases hv2
      have hj2 : j < (es.drop hf).length := by rw [List.length_drop]; exact hlt
      obtain ⟨b9, off9, he9, hb9, x0, x1, x2, x3⟩ := en_cells hr2 hj2
      cases he9
      simp only [Nat.zero_add] at x0 x1 x2 x3
      obtain ⟨R, r1, r2⟩ := mid_step (asg (S.bks.take n)) es hf pb w1.heap.size (asg (S.bks.drop (n + 1))) hj2
      have hsw := heap_lt hs6
      clear tn5 hp5 hq5 o15 o25 hs5 hs6 o26 hr2 e2
      obtain ⟨⟨⟨y1, y2, y3⟩, y4⟩, hy⟩ : ∃ y, y = (es.drop hf)[j] := ⟨_, rfl⟩
      rw [← hy] at x0 x1 x2 x3 r1 r2
      have hH : Home (wr.alloc (.cells #[.int .i64 y1, .int .i64 y2, .int .i64 y3, .bool y4] 63)).drew S.hb (mid (asg (S.bks.take n)) es hf pb w1.heap.size j (asg (S.bks.drop (n + 1)))) :=
        HM.out.turn (F := fun _ => False) ⟨rfl, rfl, rfl, by simp [World.drew], fun k hk _ => Below.heap_alloc _ _ _ hk⟩ (fun h => h)
      obtain ⟨w7, hrun, hm7, hg7⟩ := hH.move r1 w1.heap.size (hml.out j) r2
      have hg8 : Turn (fun k => k = S.hb) wr w7 := by
        have h1 : Turn (fun k => k = S.hb) wr (wr.alloc (.cells #[.int .i64 y1, .int .i64 y2, .int .i64 y3, .bool y4] 63)).drew := ⟨rfl, rfl, rfl, by simp [World.drew], fun k hk _ => Below.heap_alloc _ _ _ hk⟩
        exact h1.trans (Turn.of_grown hg7 (F := fun k => k = S.hb) (fun k hk => by cases hk; rfl)) (fun i _ h => h)
      have F7 := Lib.hid (And.intro hm7 (HT.out.trans hg8 (fun i _ h => h)))
      simp only [nmV] at hrun
      clear hH hm7 hg7 hg8 r1 r2 hy HM
      have hswn : S.s ≠ wr.heap.size := by omega
      go_wp2
      go_region
      all_goals
        go_wp2
        go_roundw
        case rel => exact ⟨j + 1, by omega, by go_num, F7.out.1, F7.out.2⟩
        case measure => simp [intOf]; omega
    · obtain rfl : j = es.length - hf := by omega
      have hsw := heap_lt hs6
      have hrow6 := own_turn (own_turn HS.out.row tn5 (fun g hg e => HPS.out.1.2.2 (mem_obs.2 (by rw [hg, e])))) HT.out (fun g hg e => HP.out.2.2 (mem_obs.2 (by rw [hg, e])))
      rw [HBV.out] at e2 hrow6
      have hvbn : b0 ≠ wr.heap.size := by have := HT.out.size; have := tn5.size; omega
      have hptl : (ptrs S.bks).length = S.bks.length := by simp [ptrs]
      have hp1c : ∀ u ∈ ptrs S.bks, u.oneCell' = true := by
        intro u hu
        obtain ⟨b, _, rfl⟩ := List.mem_map.1 hu
        rfl
      have hlen1 : S.bks.length ≤ 1000000 := by omega
      have HI := Lib.hid (insB_any (.slice (some ⟨b0, off0, none⟩) S.bks.length c) S.bks.length (n + 1) wr.heap.size (ptrs S.bks) [.pointer (some ⟨w1.heap.size, 0, none⟩)] (wr.alloc (.cells #[.pointer (some ⟨w1.heap.size, 0, none⟩)] 54)) (hrow6.alloc _) (by omega) hlen1 rfl (heap_alloc_new wr _) (by simp [Value.ownBlock]; omega) hp1c (by intro u hu; simp at hu; subst hu; rfl))
      have hn1 : (n : Int) + 1 = ((n + 1 : Nat) : Int) := by omega
      rw [← hn1] at HI
      clear hn1
      have F8 := Lib.hid (And.intro tn5 (And.intro hp5 (And.intro hq5 (And.intro o15 (And.intro o26 hs6)))))
      clear tn5 hp5 hq5 o15 o25 hs5 o26 hs6 hrow6 e0 e1
      have hswn : S.s ≠ wr.heap.size := by omega
      go_wp2_with fail
      refine (HI.out).mono ?_
      rintro e w8 ⟨bv', rfl, hob, hgb, hlb⟩
      obtain ⟨A8, c8, hv8, -⟩ := own_rd hob
      obtain ⟨n8, hn8⟩ : ∃ n8, n8 = S.bks.length + 1 := ⟨_, rfl⟩
      rw [← hn8] at hv8
      subst hv8
      have HN8 := Lib.hid hn8
      clear hn8
      obtain ⟨tn5, hp5, hq5, o15, o26, hs6⟩ := F8.out
      have hga : Turn (fun k => k = b0) wr w8 := (Turn.of_grown (World.grownBy_alloc wr _ none) (F := fun k => k = b0) (fun k hk => by cases hk)).trans (Turn.of_grown hgb (F := fun k => k = b0) (fun k hk => by cases hk; rfl)) (fun i _ h => h)
      have hb0bv : b0 ∈ obs S.bv := mem_obs.2 (by rw [HBV.out]; rfl)
      have hsb0 : S.s ≠ b0 := fun e => HP.out.2.1 (e ▸ hb0bv)
      have hhb0 : S.hb ≠ b0 := fun e => HP.out.2.2 (e ▸ hb0bv)
      have hpb0 : pb ≠ b0 := fun e => HPS.out.1.2.2 (e ▸ hb0bv)
      have hgb0 : g ≠ b0 := fun e => HPS.out.2.2.2 (e ▸ hb0bv)
      have hs8 := (hga.block S.s hsw hsb0).trans hs6
      have g0 := cells_at hs8 0
      have k0 := frozen_at hs8 0
      have F9 := Lib.hid (And.intro hs8 (And.intro hga (And.intro hob hlb)))
      clear hs8 hga hob hgb hlb tn5 hp5 hq5 o15 o26 hs6
      go_wp2
      refine bodyPost_end (results_none rfl _ _ _) rfl ?_
      refine ⟨rfl, ?_⟩
      obtain ⟨tn5, hp5, hq5, o15, o26, hs6⟩ := F8.out
      obtain ⟨hs8, hga, hob, hlb⟩ := F9.out
      have hqw : w1.heap.size < wr.heap.size := by have := HT.out.size; have := heap_lt hq5; omega
      have hpw : pb < wr.heap.size := by have := HT.out.size; have := heap_lt hp5; omega
      have ht1 : Turn (fun k => k = S.hb ∨ k = b0 ∨ k = S.s) w5 (w8.setCell ⟨S.s, 0, none⟩ (.slice A8 n8 c8)) :=
        ((HT.out.mono (G := fun k => k = S.hb ∨ k = b0 ∨ k = S.s) (fun k _ h => .inl h)).trans (hga.mono (G := fun k => k = S.hb ∨ k = b0 ∨ k = S.s) (fun k _ h => .inr (.inl h))) (fun i _ h => h)).trans
          (Turn.of_grown (setCell_grown w8 S.s 0 (.slice A8 n8 c8)) (F := fun k => k = S.hb ∨ k = b0 ∨ k = S.s) (fun k hk => by cases hk; exact .inr (.inr rfl))) (fun i _ h => h)
      have ht2 : Turn (fun k => k = S.s) w8 (w8.setCell ⟨S.s, 0, none⟩ (.slice A8 n8 c8)) := Turn.of_grown (setCell_grown w8 S.s 0 (.slice A8 n8 c8)) (fun k hk => by cases hk; rfl)
      have hb1s := hb1.size
      have hsw1 : S.s < w1.heap.size := by omega
      have hob' : (Value.slice A8 n8 c8).ownBlock = some b0 ∨ (Value.slice A8 n8 c8).ownBlock = some (wr.heap.size + 1) := by
        rcases hlb with h | h
        · exact .inl h
        · exact .inr (by rw [h]; simp)
      refine ⟨w1.heap.size, .slice (some ⟨g, 0, none⟩) hf cap, .slice (some ⟨g2', 0, none⟩) (es.length - hf) c2, .slice A8 n8 c8, ?_⟩
      constructor
      · exact set2_heap0 hs8 _
      · refine own_turn hob ht2 (fun k hk e => ?_)
        subst e
        rcases hob' with h | h
        · rw [h] at hk; injection hk with hk; exact hsb0 hk.symm
        · rw [h] at hk; injection hk with hk; omega
      · refine ⟨?_, ?_⟩
        · show (w8.setCell _ _).heap[S.bks[n].p]? = _
          rw [← HPB.out, ← HES.out, ← HHF.out]
          exact (ht1.block pb (heap_lt hp5) (fun h => by rcases h with h | h | h; exact HPS.out.1.2.1 h; exact hpb0 h; exact HPS.out.1.1 h)).trans hp5
        · show (w8.setCell _ _).ownsRow 0 _ 4 _ (S.bks[n].es.take (S.bks[n].es.length / 2)).length (ens (S.bks[n].es.take (S.bks[n].es.length / 2)))
          rw [← HES.out, ← HHF.out, HL3.out.1]
          exact own_turn o15 ht1 (fun k hk h => by
            cases hk
            rcases h with h | h | h
            · exact HPS.out.2.2.1 h
            · exact hgb0 h
            · exact HPS.out.2.1 h)
      · refine ⟨?_, ?_⟩
        · show (w8.setCell _ _).heap[w1.heap.size]? = _
          rw [← HES.out, ← HHF.out]
          exact (ht1.block w1.heap.size (heap_lt hq5) (fun h => by rcases h with h | h | h <;> omega)).trans hq5
        · show (w8.setCell _ _).ownsRow 0 _ 4 _ (S.bks[n].es.drop (S.bks[n].es.length / 2)).length (ens (S.bks[n].es.drop (S.bks[n].es.length / 2)))
          rw [← HES.out, ← HHF.out, HL3.out.2]
          exact own_turn o26 ((hga.mono (G := fun k => k = b0 ∨ k = S.s) (fun k _ h => .inl h)).trans (ht2.mono (G := fun k => k = b0 ∨ k = S.s) (fun k _ h => .inr h)) (fun i _ h => h)) (fun k hk h => by
            have hk' : g2' = k := by simpa [Value.ownBlock] using hk
            subst hk'
            rcases h with h | h
            · have h' : g2' = b0 := h
              omega
            · have h' : g2' = S.s := h
              omega)
      · rw [HV.out]; rfl
      · exact ⟨hb1s, fun k hk => by
          have hk' : g2' = k := by simpa [Value.ownBlock] using hk
          subst hk'
          exact ⟨hgn2, by omega⟩⟩
      · rcases hob' with h | h
        · left; rw [h, HBV.out]; rfl
        · right
          refine ⟨_, h, by omega, by omega, fun e => ?_⟩
          have e' : g2' = wr.heap.size + 1 := by simpa [Value.ownBlock] using e
          omega
      · rw [← HES.out, ← HHF.out, HL3.out.2, ← HPB.out]
        exact ((HM.out.turn hga hhb0).turn ht2 (fun e => HP.out.1 e.symm))
      · refine (tn5.mono (G := fun k => k = S.s ∨ k = S.hb ∨ k ∈ obs S.bv ∨ k = S.bks[n].p) (fun k _ h => .inr (.inr (.inr (by rw [← HPB.out]; exact h))))).trans ht1 (fun i _ h => ?_)
        rcases h with h | h | h
        · exact .inr (.inl h)
        · exact .inr (.inr (.inl (by rw [h]; exact hb0bv)))
        · exact .inl h

end Go.Proofs.Ytnbgnjpjdplocaa.Q10
