/-
  Layer 10, walks: Put.
-/
import Derived.Test.YtnbgnjpjdplocaaQ10n
namespace Go.Proofs.Ytnbgnjpjdplocaa.Q10
open Go.RowKit Go.PlainAid
set_option linter.unusedVariables false
set_option linter.unusedSimpArgs false

def putE (l : List En) (a : Int) (x : Nm) : Int := if a < 0 ∨ (l.length : Int) < a then 100 else if x ∈ l.map Prod.fst then 110 else 0
def putL (l : List En) (a : Int) (e : En) : List En := if a < 0 ∨ (l.length : Int) < a then l else if e.1 ∈ l.map Prod.fst then l else insEn l a.toNat e

/-- What stands behind Insert, ahead of the store. -/
def Mid1 (S : Sf) (n : Nat) (hn : n < S.bks.length) (m : Nat) (x : En) (w w3 : World) (v' : Value) : Prop :=
  w3.ownsRow 0 63 4 v' (S.bks[n].es.length + 1) (ens (insEn S.bks[n].es m x)) ∧ (v'.ownBlock = S.bks[n].v.ownBlock ∨ ∃ g, v'.ownBlock = some g ∧ w.heap.size ≤ g) ∧ Turn (fun k => S.bks[n].v.ownBlock = some k) w w3
/-- What stands behind count. -/
def Mid2 (S : Sf) (n : Nat) (hn : n < S.bks.length) (m : Nat) (x : En) (w w5 : World) (v' : Value) : Prop :=
  w5.heap[S.bks[n].p]? = some (.cells #[v', .int .i64 (seenN (insEn S.bks[n].es m x))] 57 (0, 0)) ∧ w5.ownsRow 0 63 4 v' (S.bks[n].es.length + 1) (ens (insEn S.bks[n].es m x)) ∧
  (v'.ownBlock = S.bks[n].v.ownBlock ∨ ∃ g, v'.ownBlock = some g ∧ w.heap.size ≤ g) ∧ Turn (fun k => k ∈ S.bks[n].foot) w w5

theorem Home.perm {w : World} {hb : Nat} {xs ys : List (Nm × Nat)} (h : Home w hb xs) (hp : ys.Perm xs) : Home w hb ys := by
  obtain ⟨⟨D, h1, h2, h3, h4⟩, h5, h6⟩ := h
  refine ⟨⟨D, by rw [hp.length_eq]; exact h1, by rw [hp.length_eq]; exact h2, fun x hx => ?_, fun q hq => h4 q (hp.mem_iff.1 hq)⟩, fun q hq => h5 q (hp.mem_iff.1 hq), ((hp.map Prod.fst).nodup_iff).2 h6⟩
  rw [(hp.map Prod.fst).mem_iff]
  exact h3 x hx

theorem mid1_of (S : Sf) (n : Nat) (hn : n < S.bks.length) (m : Nat) (hm : m ≤ S.bks[n].es.length) (x : En) (w w2 : World) (h : ShAt S w) (hb : Below w.heap.size w w2) (A : Option Addr) (c : Nat) (hv : S.bks[n].v = .slice A S.bks[n].es.length c) :
    Calls Try.prog 25 #[.slice A S.bks[n].es.length c, .int .i64 (m : Int), .slice (some ⟨w2.heap.size, 0, none⟩) 1 1] (w2.alloc (.cells #[.int .i64 x.1.1, .int .i64 x.1.2.1, .int .i64 x.1.2.2, .bool x.2] 63)).drew fun e w3 =>
      ∃ A8 c8, e = .returned (.slice A8 (S.bks[n].es.length + 1) c8) ∧ w3.cell? ⟨S.bks[n].p, 0, none⟩ = some (.slice A S.bks[n].es.length c) ∧ w3.frozen? ⟨S.bks[n].p, 0, none⟩ = false ∧ Hid (Mid1 S n hn m x w w3 (.slice A8 (S.bks[n].es.length + 1) c8)) := by
  have hat := h.each S.bks[n] (List.getElem_mem hn)
  have hfew := h.few
  have hfw := es_few hn
  have hb2 : Below w.heap.size w (w2.alloc (.cells #[.int .i64 x.1.1, .int .i64 x.1.2.1, .int .i64 x.1.2.2, .bool x.2] 63)).drew := (hb.alloc hb.size _).drew
  have ho := hat.2.kept (grown_of hb2 none) (by cases S.bks[n].v.ownBlock <;> simp)
  have hnb : S.bks[n].v.ownBlock ≠ some w2.heap.size := fun e => by
    have := (hat.2.lt _ e).2
    have := hb.size
    omega
  rw [hv] at ho hnb
  refine (insE_any (.slice A S.bks[n].es.length c) S.bks[n].es.length m w2.heap.size (ens S.bks[n].es) (enC x) _ ho hm (by omega) rfl (heap_alloc_new w2 _) hnb (ens_one _) (by
    intro u hu; simp [enC] at hu; rcases hu with rfl | rfl | rfl | rfl <;> rfl)).mono ?_
  rintro e w3 ⟨v', rfl, h1, h2, h3⟩
  obtain ⟨A8, c8, hv8, -⟩ := own_rd h1
  subst hv8
  have hp3 : w3.heap[S.bks[n].p]? = some (.cells #[S.bks[n].v, .int .i64 (seenN S.bks[n].es)] 57 (0, 0)) := by
    have hq := (hb2.block S.bks[n].p (heap_lt hat.1)).trans hat.1
    rw [h2.block _ (heap_lt hq) (fun e => by
      have := (List.nodup_cons.1 (h.block_nod hn)).1
      exact this (mem_obs.2 (by rw [hv]; exact e.symm)))]
    exact hq
  refine ⟨A8, c8, rfl, (cells_at hp3 0).trans (by rw [hv]; rfl), frozen_at hp3 0, ?_⟩
  refine ⟨by rw [ens_ins]; exact h1, ?_, ?_⟩
  · rcases h3 with h3 | h3
    · left; rw [h3, hv]
    · right; exact ⟨_, h3, by simp; have := hb.size; omega⟩
  · rw [hv]
    exact (Turn.of_below hb2 (fun k => (Value.slice A S.bks[n].es.length c).ownBlock = some k)).trans (Turn.of_grown h2 (F := fun k => (Value.slice A S.bks[n].es.length c).ownBlock = some k) (fun k hk => hk)) (fun i _ h => h)

theorem mid2_of (S : Sf) (n : Nat) (hn : n < S.bks.length) (m : Nat) (hm : m ≤ S.bks[n].es.length) (x : En) (w w3 : World) (h : ShAt S w) (v' : Value) (hq : Mid1 S n hn m x w w3 v') :
    Calls Try.prog 26 #[.pointer (some ⟨S.bks[n].p, 0, none⟩)] (w3.setCell ⟨S.bks[n].p, 0, none⟩ v') fun e w5 => e = .returned (.tuple #[]) ∧ Mid2 S n hn m x w w5 v' := by
  obtain ⟨h1, h2, h3⟩ := hq
  have hat := h.each S.bks[n] (List.getElem_mem hn)
  have hfew := h.few
  have hfw := es_few hn
  have hnp := (List.nodup_cons.1 (h.block_nod hn)).1
  have hp3 := (h3.block S.bks[n].p (heap_lt hat.1) (fun e => hnp (mem_obs.2 e))).trans hat.1
  have hv'p : v'.ownBlock ≠ some S.bks[n].p := by
    rcases h2 with h2 | ⟨g, h2, hg⟩
    · rw [h2]; exact fun e => hnp (mem_obs.2 e)
    · rw [h2]; intro e; injection e with e; have := heap_lt hat.1; omega
  have ho : (w3.setCell ⟨S.bks[n].p, 0, none⟩ v').ownsRow 0 63 4 v' (S.bks[n].es.length + 1) (ens (insEn S.bks[n].es m x)) := h1.kept (setCell_grown w3 _ 0 v') (.inr hv'p)
  have hl := insEn_len hm x
  refine (blkCount_any S.bks[n].p v' _ (insEn S.bks[n].es m x) _ (set2_heap0 hp3 v') (by rw [hl]; exact ho) (by rw [hl]; omega)).mono ?_
  rintro e w5 ⟨he, g1, g2⟩
  refine ⟨he, g1, ho.kept g2 (.inr hv'p), h2, ?_⟩
  have t1 : Turn (fun k => k ∈ S.bks[n].foot) w w3 := h3.mono (fun k _ hk => by simp only [Bk.foot, List.mem_cons, mem_obs]; exact .inr hk)
  exact (t1.trans (Turn.of_grown (setCell_grown w3 S.bks[n].p 0 v') (F := fun k => k = S.bks[n].p) (fun k hk => by cases hk; rfl)) (fun i _ hi => by rw [hi]; simp [Bk.foot])).trans
    (Turn.of_grown g2 (F := fun k => k = S.bks[n].p) (fun k hk => by cases hk; rfl)) (fun i _ hi => by rw [hi]; simp [Bk.foot])

set_option maxRecDepth 100000 in
set_option maxHeartbeats 4000000 in
theorem shPut_any (S : Sf) (a : Int) (x : Nm) (sn : Bool) (hx : okNm x) (h1 : -9223372036854775808 ≤ a) (h2 : a ≤ 9223372036854775807) (w : World) (h : ShAt S w) (hfew : (flat S.bks).length + 1 ≤ 100000) :
    Calls Try.prog 12 #[.pointer (some ⟨S.s, 0, none⟩), .int .i64 a, nmV x, .bool sn] w fun e w' =>
      e = .returned (.int .i64 (putE (flat S.bks) a x)) ∧ Left S (putL (flat S.bks) a (x, sn)) w w' := by
  obtain ⟨t, r, i⟩ := x
  have hba : Below w.heap.size w (w.alloc (.cells #[.int .i64 t, .int .i64 r, .int .i64 i] 35)) := (Below.refl _ _).alloc (Nat.le_refl _) _
  have hN := heap_alloc_new w (.cells #[.int .i64 t, .int .i64 r, .int .i64 i] 35)
  obtain ⟨w1, hw1⟩ : ∃ w1, w1 = w.alloc (.cells #[.int .i64 t, .int .i64 r, .int .i64 i] 35) := ⟨_, rfl⟩
  have HA : Hid (w.alloc (.cells #[.int .i64 t, .int .i64 r, .int .i64 i] 35) = w1) := hw1.symm
  rw [← hw1] at hba hN
  have hS1 := h.keep hba
  obtain ⟨A, c, c0, c1, hr, hc, hm, hbv⟩ := hS1.facts
  have hlook := hS1.home.look hx
  have RC := Lib.hid (room_any S a h1 h2 w1 hS1)
  have a0 := cells_at hN 0
  have a1 := cells_at hN 1
  have a2 := cells_at hN 2
  have H := Lib.hid h
  have HB := Lib.hid hba
  have HR := Lib.hid hr
  have HBV := Lib.hid hbv
  have HN := Lib.hid hN
  have HX := Lib.hid hx
  have hsh := h.short
  clear hw1 h hba hr hbv hN hx hS1
  show Calls Try.prog 12 #[.pointer (some ⟨S.s, 0, none⟩), .int .i64 a, .agg #[.int .i64 t, .int .i64 r, .int .i64 i], .bool sn] w _
  go_enter Try.func12, Try.ntmps12
  go_wp2_with fail
  rw [HA.out]
  refine (RC.out).mono ?_
  rintro e w1' ⟨hro, rfl⟩
  rcases hro with ⟨hbad, rfl⟩ | ⟨n, m, hn, hmm, ha, rfl⟩
  · have HE : Hid (putE (flat S.bks) a (t, r, i) = 100 ∧ putL (flat S.bks) a ((t, r, i), sn) = flat S.bks) := ⟨if_pos hbad, if_pos hbad⟩
    go_wp2
    go_ret
    rw [HE.out.1, HE.out.2]
    exact ⟨by trivial, Left.same H.out HB.out⟩
  · have hbad : ¬ (a < 0 ∨ ((flat S.bks).length : Int) < a) := by
      have := es_few hn
      omega
    rcases hlook with ⟨p, hp, hl⟩ | ⟨hnx, hl⟩
    · have hmem : (t, r, i) ∈ (flat S.bks).map Prod.fst := by rw [← asg_names]; exact List.mem_map_of_mem (f := Prod.fst) hp
      have HE : Hid (putE (flat S.bks) a (t, r, i) = 110 ∧ putL (flat S.bks) a ((t, r, i), sn) = flat S.bks) := by
        unfold putE putL
        rw [if_neg hbad, if_neg hbad, if_pos hmem, if_pos hmem]
        exact ⟨rfl, rfl⟩
      simp only [nmV] at hl
      clear hmem hp hbad
      go_upto_region 4 with fail
      go_quiet (fail)
      go_wp2
      go_ret
      rw [HE.out.1, HE.out.2]
      exact ⟨by trivial, Left.same H.out (below_drewN HB.out _)⟩
    · rw [asg_names] at hnx
      have HE : Hid (putE (flat S.bks) a (t, r, i) = 0 ∧ putL (flat S.bks) a ((t, r, i), sn) = insEn (flat S.bks) ((flat (S.bks.take n)).length + m) ((t, r, i), sn) ∧ (t, r, i) ∉ (flat S.bks).map Prod.fst) := by
        unfold putE putL
        rw [if_neg hbad, if_neg hbad, if_neg hnx, if_neg hnx, ha, Int.toNat_natCast]
        exact ⟨rfl, rfl, hnx⟩
      simp only [nmV] at hl
      clear hnx hbad
      go_upto_region 4 with fail
      go_quiet (fail)
      clear hl c1 a0 a1 a2
      obtain ⟨w2, hw2⟩ : ∃ w2, w2 = w1'.drewN nq := ⟨_, rfl⟩
      rw [← hw2]
      have hb2 : Below w.heap.size w w2 := by rw [hw2]; exact below_drewN HB.out nq
      have hN2 : w2.heap[w.heap.size]? = some (.cells #[.int .i64 t, .int .i64 r, .int .i64 i] 35 (0, 0)) := by rw [hw2]; exact HN.out
      have hS2 := H.out.keep hb2
      clear hw2 c0
      obtain ⟨A', c', c0, c1, hr, hc, hm', hbv⟩ := hS2.facts
      obtain ⟨b0, off0, rfl, hb0, q0⟩ := ptrs_cell hr hn
      have hat := hS2.each S.bks[n] (List.getElem_mem hn)
      obtain ⟨A2, c2, d0, d1, hr2, hc2, hm2, hv2⟩ := hat.facts
      have f0 := frozen_at hat.1 0
      have a0 := cells_at hN2 0
      have a1 := cells_at hN2 1
      have a2 := cells_at hN2 2
      have hNl := heap_lt hN2
      have hpl := heap_lt hat.1
      have CI := Lib.hid (mid1_of S n hn m hmm ((t, r, i), sn) w2 w2 hS2 (Below.refl _ _) A2 c2 hv2)
      have HS2 := Lib.hid hS2
      have CC : Hid (∀ w3 v', Mid1 S n hn m ((t, r, i), sn) w2 w3 v' → Calls Try.prog 26 #[.pointer (some ⟨S.bks[n].p, 0, none⟩)] (w3.setCell ⟨S.bks[n].p, 0, none⟩ v') fun e w5 => e = .returned (.tuple #[]) ∧ Mid2 S n hn m ((t, r, i), sn) w2 w5 v') :=
        fun w3 v' hq => mid2_of S n hn m hmm _ w2 w3 HS2.out v' hq
      have HB2 := Lib.hid hb2
      have HN2 := Lib.hid hN2
      clear hb2 hN2 hS2 hat hr2 d1 hbv hr ha c1
      generalize hpn : S.bks[n].p = pn at *
      have HPN := Lib.hid hpn
      clear hpn
      go_wp2
      have hppn : pn ≠ w2.heap.size := by omega
      have TAIL : Hid (∀ w3 A8 c8, Mid1 S n hn m ((t, r, i), sn) w2 w3 (.slice A8 (S.bks[n].es.length + 1) c8) → Calls Try.prog 26 #[.pointer (some ⟨pn, 0, none⟩)] (w3.setCell ⟨pn, 0, none⟩ (.slice A8 (S.bks[n].es.length + 1) c8)) fun e w5 => e = .returned (.tuple #[]) ∧
          w5.cell? ⟨S.s, 1, none⟩ = some (.map (some S.hb)) ∧ w5.cell? ⟨w.heap.size, 0, none⟩ = some (.int .i64 t) ∧ w5.cell? ⟨w.heap.size, 1, none⟩ = some (.int .i64 r) ∧ w5.cell? ⟨w.heap.size, 2, none⟩ = some (.int .i64 i) ∧
          ∃ w6, (Instr.mapUpdate 59 (.map (some S.hb)) (.agg #[.int .i64 t, .int .i64 r, .int .i64 i]) (.pointer (some ⟨pn, 0, none⟩))).run Try.prog w5.drew = .ok () w6 ∧
            w6.cell? ⟨pn, 0, none⟩ = some (.slice A8 (S.bks[n].es.length + 1) c8) ∧
            Hid (∃ S1, S1.s = S.s ∧ flat S1.bks = insEn (flat S.bks) ((flat (S.bks.take n)).length + m) ((t, r, i), sn) ∧ ShAt S1 w6 ∧ Turn (fun k => k ∈ S.foot) w2 w6 ∧ (∀ k ∈ S1.foot, k ∈ S.foot ∨ w2.heap.size ≤ k) ∧
      S1.bks.length ≤ (flat S1.bks).length ∧ ∃ h1 : n < S1.bks.length, S1.bks[n].es.length = S.bks[n].es.length + 1)) := by
        intro w3 A8 c8 hq
        refine (CC.out w3 _ hq).mono ?_
        rintro e w5 ⟨he, m1, m2, m3, m4⟩
        have hS := HS2.out
        obtain ⟨p1, p2, p3, p4, p5⟩ := hS.parts
        have hfm : ∀ k ∈ S.bks[n].foot, k ∈ S.bks.flatMap Bk.foot := fun k hk => List.mem_flatMap.2 ⟨_, List.getElem_mem hn, hk⟩
        have hs5 := (m4.block S.s (heap_lt hS.box) (fun hk => (p2 _ (hfm _ hk)).1 rfl)).trans hS.box
        have hnf : w.heap.size ∉ S.bks[n].foot := fun hk => by
          have := H.out.foot_lt w.heap.size (by rw [foot_split S hn]; simp [hk])
          omega
        have hx5 := (m4.block w.heap.size (heap_lt HN2.out) hnf).trans HN2.out
        refine ⟨he, (cells_at hs5 1).trans rfl, (cells_at hx5 0).trans rfl, (cells_at hx5 1).trans rfl, (cells_at hx5 2).trans rfl, ?_⟩
        have hh5 : Home w5.drew S.hb (asg S.bks) := (hS.home.turn m4 (fun hk => (p2 _ (hfm _ hk)).2.1 rfl)).turn (F := fun _ => False) ⟨rfl, rfl, rfl, Nat.le_refl _, fun _ _ _ => rfl⟩ (fun h => h)
        obtain ⟨w6, hrun, hm6, hg6⟩ := hh5.put HX.out (by rw [asg_names]; exact HE.out.2.2) pn (by rw [asg_len]; omega) (List.Perm.refl _)
        have hg6' : Turn (fun k => k = S.hb) w5 w6 := by
          have h9 : Turn (fun k => k = S.hb) w5 w5.drew := ⟨rfl, rfl, rfl, Nat.le_refl _, fun _ _ _ => rfl⟩
          exact h9.trans (Turn.of_grown hg6 (F := fun k => k = S.hb) (fun k hk => by cases hk; rfl)) (fun i _ h => h)
        have hpf : S.bks[n].p ∈ S.bks[n].foot := by simp [Bk.foot]
        have hp6 := (hg6'.block S.bks[n].p (heap_lt m1) (fun e => (p2 _ (hfm _ hpf)).2.1 e)).trans m1
        rw [HPN.out] at hp6
        refine ⟨w6, hrun, (cells_at hp6 0).trans rfl, ?_⟩
        refine put1 S n hn m hmm ((t, r, i), sn) w2 w6 hS _ (by rw [HPN.out]; exact hp6) (own_turn m2 hg6' (fun g hg e => ?_)) m3 (fun ys hys => hm6.perm (by rw [← HPN.out]; exact hys)) ?_ hfew
        · subst e
          rcases m3 with m3 | ⟨g2, m3, hg2⟩
          · exact (p2 _ (hfm _ (by simp only [Bk.foot, List.mem_cons, mem_obs]; right; rw [← m3]; exact hg))).2.1 rfl
          · rw [hg] at m3
            injection m3 with m3
            have := hS.foot_lt S.hb (by simp [Sf.foot])
            omega
        · exact (m4.mono (G := fun k => k ∈ S.bks[n].foot ∨ k = S.hb) (fun k _ h => .inl h)).trans (hg6'.mono (G := fun k => k ∈ S.bks[n].foot ∨ k = S.hb) (fun k _ h => .inr h)) (fun i _ h => h)
      have hlen9 := es_few hn
      have HFT : Hid (∀ S1 w6, S1.s = S.s → flat S1.bks = insEn (flat S.bks) ((flat (S.bks.take n)).length + m) ((t, r, i), sn) → ShAt S1 w6 → Turn (fun k => k ∈ S.foot) w2 w6 → (∀ k ∈ S1.foot, k ∈ S.foot ∨ w2.heap.size ≤ k) →
          ∀ w7, Left S1 (flat S1.bks) w6 w7 → Left S (insEn (flat S.bks) ((flat (S.bks.take n)).length + m) ((t, r, i), sn)) w w7) := by
        intro S1 w6 q1 q2 q3 q4 q5 w7 ⟨S2, r1, r2, r3, r4, r5⟩
        have hbs := HB2.out.size
        refine ⟨S2, r1.trans q1, r2.trans q2, r3, ?_, fun k hk => ?_⟩
        · refine ((Turn.of_below HB2.out (fun k => k ∈ S.foot)).trans q4 (fun i _ h => h)).trans r4 (fun i hi h => ?_)
          rcases q5 i h with h | h
          · exact h
          · omega
        · have := q4.size
          rcases r5 k hk with h | h
          · rcases q5 k h with h | h
            · exact .inl h
            · exact .inr (by omega)
          · exact .inr (by omega)
      go_region_law (go_simp; go_at_call 25; refine CI.out.mono ?_; rintro e w3 ⟨A8, c8, rfl, g0, g1, HM⟩)
      all_goals
        go_wp2_with fail
        refine (TAIL.out w3 A8 c8 HM.out).mono ?_
        rintro e w5 ⟨rfl, k1, k2, k3, k4, w6, hrun, k5, HF⟩
        go_wp2
        clear g0 g1 CI CC TAIL c0 q0 d0 f0 a0 a1 a2
        go_region
        all_goals
          clear k1 k2 k3 k4 hrun
          obtain ⟨S1, q1, q2, q3, q4, q5, q6, q7, q8⟩ := HF.out
          by_cases hbig : 256 < S.bks[n].es.length + 1
          · have hbz : (256 : Int) < (S.bks[n].es.length : Int) + 1 := by omega
            have HP := Lib.hid (part_any S1 n q7 w6 q3 (by omega) q6)
            rw [q1] at HP
            have HQ := Lib.hid (And.intro q1 (And.intro q2 (And.intro q3 (And.intro q4 q5))))
            clear q1 q2 q3 q4 q5 q6 q8 HF
            go_wp2_with fail
            refine (HP.out).mono ?_
            rintro e w7 ⟨rfl, hl7⟩
            have HL7 := Lib.hid hl7
            clear hl7
            go_wp2
            go_ret
            obtain ⟨q1, q2, q3, q4, q5⟩ := HQ.out
            rw [HE.out.1, HE.out.2.1]
            exact ⟨by trivial, HFT.out S1 w6 q1 q2 q3 q4 q5 w7 HL7.out⟩
          · have hbz : ¬ (256 : Int) < (S.bks[n].es.length : Int) + 1 := by omega
            have HQ := Lib.hid (And.intro q1 (And.intro q2 (And.intro q3 (And.intro q4 q5))))
            clear q1 q2 q3 q4 q5 q6 q8 HF
            go_wp2
            go_ret
            obtain ⟨q1, q2, q3, q4, q5⟩ := HQ.out
            rw [HE.out.1, HE.out.2.1]
            exact ⟨by trivial, HFT.out S1 w6 q1 q2 q3 q4 q5 w6 (Left.same q3 (Below.refl _ _))⟩

end Go.Proofs.Ytnbgnjpjdplocaa.Q10
