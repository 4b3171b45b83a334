/-
  Layer 10: the shelf with one block another one; Show.
-/
import Derived.Test.YtnbgnjpjdplocaaQ10k
namespace Go.Proofs.Ytnbgnjpjdplocaa.Q10
open Go.RowKit Go.PlainAid
set_option linter.unusedVariables false
set_option linter.unusedSimpArgs false

theorem nod_swap {A U B X C U' X' : List Nat} {N : Nat} (h : (A ++ (U ++ (B ++ (X ++ C)))).Nodup) (hN : ∀ k ∈ A ++ (U ++ (B ++ (X ++ C))), k < N) (hU : U'.Nodup) (hX : X'.Nodup)
    (h1 : ∀ k ∈ U', k ∈ U ∨ N ≤ k) (h2 : ∀ k ∈ X', k ∈ X ∨ N ≤ k) (h3 : ∀ k ∈ U', k ∉ X') : (A ++ (U' ++ (B ++ (X' ++ C)))).Nodup := by
  simp only [List.nodup_append, List.mem_append] at h hN ⊢
  obtain ⟨a1, ⟨u1, ⟨b1, ⟨x1, c1, xc⟩, bx⟩, ub⟩, au⟩ := h
  refine ⟨a1, ⟨hU, ⟨b1, ⟨hX, c1, ?_⟩, ?_⟩, ?_⟩, ?_⟩
  · intro a ha b hb e
    subst e
    rcases h2 _ ha with h | h
    · exact xc _ h _ hb rfl
    · have := hN _ (.inr (.inr (.inr (.inr hb)))); omega
  · intro a ha b hb e
    subst e
    rcases hb with hb | hb
    · rcases h2 _ hb with h | h
      · exact bx _ ha _ (.inl h) rfl
      · have := hN _ (.inr (.inr (.inl ha))); omega
    · exact bx _ ha _ (.inr hb) rfl
  · intro a ha b hb e
    subst e
    rcases hb with hb | hb | hb
    · rcases h1 _ ha with h | h
      · exact ub _ h _ (.inl hb) rfl
      · have := hN _ (.inr (.inr (.inl hb))); omega
    · exact h3 _ ha hb
    · rcases h1 _ ha with h | h
      · exact ub _ h _ (.inr (.inr hb)) rfl
      · have := hN _ (.inr (.inr (.inr (.inr hb)))); omega
  · intro a ha b hb e
    subst e
    rcases hb with hb | hb | hb | hb
    · rcases h1 _ hb with h | h
      · exact au _ ha _ (.inl h) rfl
      · have := hN _ (.inl ha); omega
    · exact au _ ha _ (.inr (.inl hb)) rfl
    · rcases h2 _ hb with h | h
      · exact au _ ha _ (.inr (.inr (.inl h))) rfl
      · have := hN _ (.inl ha); omega
    · exact au _ ha _ (.inr (.inr (.inr hb))) rfl

theorem foot_split (S : Sf) {n : Nat} (hn : n < S.bks.length) : S.foot = [S.s, S.hb] ++ (obs S.bv ++ ((S.bks.take n).flatMap Bk.foot ++ (S.bks[n].foot ++ (S.bks.drop (n + 1)).flatMap Bk.foot))) := by
  have e : S.bks = S.bks.take n ++ S.bks[n] :: S.bks.drop (n + 1) := by rw [← List.drop_eq_getElem_cons hn, List.take_append_drop]
  have : S.bks.flatMap Bk.foot = (S.bks.take n).flatMap Bk.foot ++ (S.bks[n].foot ++ (S.bks.drop (n + 1)).flatMap Bk.foot) := by
    conv => lhs; rw [e]
    rw [List.flatMap_append, List.flatMap_cons]
  rw [Sf.foot, this]
  rfl
theorem foot_disj : ∀ {L : List Bk}, (L.flatMap Bk.foot).Nodup → ∀ {i j : Nat} (hi : i < L.length) (hj : j < L.length), i ≠ j → ∀ k ∈ L[i].foot, k ∉ L[j].foot := by
  intro L
  induction L with
  | nil => intro _ i j hi; simp at hi
  | cons b L ih =>
    intro h i j hi hj hne k hk hk'
    rw [List.flatMap_cons, List.nodup_append] at h
    cases i with
    | zero =>
      cases j with
      | zero => exact hne rfl
      | succ j => exact h.2.2 k hk k (List.mem_flatMap.2 ⟨_, List.getElem_mem (by simpa using hj), hk'⟩) rfl
    | succ i =>
      cases j with
      | zero => exact h.2.2 k hk' k (List.mem_flatMap.2 ⟨_, List.getElem_mem (by simpa using hi), hk⟩) rfl
      | succ j => exact ih h.2.1 (by simpa using hi) (by simpa using hj) (by omega) k hk hk'
theorem ShAt.parts {S : Sf} {w : World} (h : ShAt S w) : (S.bks.flatMap Bk.foot).Nodup ∧ (∀ k ∈ S.bks.flatMap Bk.foot, k ≠ S.s ∧ k ≠ S.hb ∧ k ∉ obs S.bv) ∧ S.s ≠ S.hb ∧ S.s ∉ obs S.bv ∧ S.hb ∉ obs S.bv := by
  have ha := h.apart
  rw [Sf.foot, List.nodup_cons, List.nodup_cons, List.nodup_append] at ha
  obtain ⟨a1, a2, a3, a4, a5⟩ := ha
  simp only [List.mem_cons, List.mem_append, not_or] at a1 a2
  exact ⟨a4, fun k hk => ⟨fun e => a1.2.2 (e ▸ hk), fun e => a2.2 (e ▸ hk), fun e => a5 k e k hk rfl⟩, a1.1, a1.2.1, a2.1⟩
/-- What the other blocks are behind a call that turned the nth one's, and what is the shelf's own. -/
theorem ShAt.other {S : Sf} {w w' : World} {F : Nat → Prop} {n : Nat} (h : ShAt S w) (hn : n < S.bks.length) (ht : Turn F w w') (hF : ∀ k, F k → k < w.heap.size → k ∈ S.bks[n].foot ∨ k = S.s ∨ k = S.hb ∨ k ∈ obs S.bv) {j : Nat} (hj : j < S.bks.length) (hne : j ≠ n) : S.bks[j].At w' := by
  obtain ⟨p1, p2, -⟩ := h.parts
  have hm : ∀ k ∈ S.bks[j].foot, k ∈ S.bks.flatMap Bk.foot := fun k hk => List.mem_flatMap.2 ⟨_, List.getElem_mem hj, hk⟩
  refine (h.each _ (List.getElem_mem hj)).turn (F := fun k => F k ∧ k < w.heap.size) (ht.mono (fun k hk hf => ⟨hf, hk⟩)) (fun k hk hf => ?_)
  rcases hF k hf.1 hf.2 with q | q | q | q
  · exact foot_disj p1 hj hn hne k hk q
  · exact (p2 k (hm k hk)).1 q
  · exact (p2 k (hm k hk)).2.1 q
  · exact (p2 k (hm k hk)).2.2 q
theorem set_split {L : List Bk} {n : Nat} (hn : n < L.length) (b : Bk) : L.set n b = L.take n ++ b :: L.drop (n + 1) := by
  rw [List.set_eq_take_append_cons_drop, if_pos hn]
theorem mem_set {L : List Bk} {n : Nat} {b x : Bk} (h : x ∈ L.set n b) : x = b ∨ ∃ (j : Nat) (hj : j < L.length), j ≠ n ∧ x = L[j] := by
  obtain ⟨j, hj, rfl⟩ := List.getElem_of_mem h
  rw [List.length_set] at hj
  by_cases e : j = n
  · subst e; left; simp
  · right; exact ⟨j, hj, e, by rw [List.getElem_set_ne (by omega)]⟩
theorem flat_set {L : List Bk} {n : Nat} (hn : n < L.length) (b : Bk) : flat (L.set n b) = flat (L.take n) ++ (b.es ++ flat (L.drop (n + 1))) := by
  rw [set_split hn, flat_append]; rfl
theorem asg_set {L : List Bk} {n : Nat} (hn : n < L.length) (b : Bk) : asg (L.set n b) = asg (L.take n) ++ (b.es.map (fun e => (e.1, b.p)) ++ asg (L.drop (n + 1))) := by
  rw [set_split hn, asg_append]; rfl
theorem asg_split {L : List Bk} {n : Nat} (hn : n < L.length) : asg L = asg (L.take n) ++ (L[n].es.map (fun e => (e.1, L[n].p)) ++ asg (L.drop (n + 1))) := by
  have e : L = L.take n ++ L[n] :: L.drop (n + 1) := by rw [← List.drop_eq_getElem_cons hn, List.take_append_drop]
  conv => lhs; rw [e]
  rw [asg_append]; rfl
theorem ShAt.names {S : Sf} {w : World} (h : ShAt S w) : ((flat S.bks).map Prod.fst).Nodup := by
  rw [← asg_names]; exact h.home.nod

/-- What a call leaves of a shelf: the ids l. -/
def Left (S : Sf) (l : List En) (w w' : World) : Prop := ∃ S', S'.s = S.s ∧ flat S'.bks = l ∧ ShAt S' w' ∧ Turn (fun k => k ∈ S.foot) w w' ∧ ∀ k ∈ S'.foot, k ∈ S.foot ∨ w.heap.size ≤ k
theorem Left.same {S : Sf} {w w' : World} (h : ShAt S w) (hb : Below w.heap.size w w') : Left S (flat S.bks) w w' :=
  ⟨S, rfl, rfl, h.keep hb, Turn.of_below hb _, fun k hk => .inl hk⟩

theorem map_same {α β : Type} {L : List α} {n : Nat} (hn : n < L.length) (f : α → β) {b : α} (h : f b = f L[n]) : (L.set n b).map f = L.map f := by
  rw [List.map_set, h]
  have : f L[n] = (L.map f)[n]'(by simpa using hn) := by simp
  rw [this, List.set_getElem_self]
theorem flatMap_same {α β : Type} {L : List α} {n : Nat} (hn : n < L.length) (f : α → List β) {b : α} (h : f b = f L[n]) : (L.set n b).flatMap f = L.flatMap f := by
  rw [List.flatMap_def, List.flatMap_def, map_same hn f h]
theorem Home.at {w : World} {hb : Nat} {xs : List (Nm × Nat)} (h : Home w hb xs) {x : Nm} {p : Nat} (hq : (x, p) ∈ xs) (q : Nat) :
    (Instr.lookup 59 (.map (some hb)) (nmV x) true).run Try.prog (w.drewN q) = .ok (.tuple #[.pointer (some ⟨p, 0, none⟩), .bool true]) (w.drewN q) := by
  obtain ⟨⟨D, h1, h2, h3, h4⟩, h5, h6⟩ := h
  obtain ⟨v, ps, e1, e2⟩ := World.ownsMap.look_ok (w := w.drewN q) (show (w.drewN q).ownsMap _ _ _ _ _ _ from h1) idLaw Try.underlying59 (zeroBlk _) (zd := .nil) (zp := []) rfl (kl_ok (h5 _ hq))
  rw [h4 _ hq] at e2
  rw [e1, RB_inv e2, (h3 x (h5 _ hq)).2 (List.mem_map_of_mem (f := Prod.fst) hq)]

set_option maxRecDepth 100000 in
set_option maxHeartbeats 2000000 in
theorem shShow_none (S : Sf) (x : Nm) (b : Bool) (hx : okNm x) (w : World) (h : ShAt S w) (hn : x ∉ (flat S.bks).map Prod.fst) :
    Calls Try.prog 19 #[.pointer (some ⟨S.s, 0, none⟩), nmV x, .bool b] w fun e w' => e = .returned (.int .i64 111) ∧ Below w.heap.size w w' := by
  obtain ⟨t, r, i⟩ := x
  have hba : Below w.heap.size w (w.alloc (.cells #[.int .i64 t, .int .i64 r, .int .i64 i] 35)) := (Below.refl _ _).alloc (Nat.le_refl _) _
  obtain ⟨A, c, c0, c1, -⟩ := (h.keep hba).facts
  have hlook := ((h.keep hba).home.look hx).resolve_left (fun ⟨p, hp, _⟩ => hn (by rw [← asg_names]; exact List.mem_map_of_mem (f := Prod.fst) hp))
  obtain ⟨-, hl⟩ := hlook
  have a0 := World.cell?_alloc_at (w := w) #[.int .i64 t, .int .i64 r, .int .i64 i] 35 w.heap.size 0 rfl
  have a1 := World.cell?_alloc_at (w := w) #[.int .i64 t, .int .i64 r, .int .i64 i] 35 w.heap.size 1 rfl
  have a2 := World.cell?_alloc_at (w := w) #[.int .i64 t, .int .i64 r, .int .i64 i] 35 w.heap.size 2 rfl
  obtain ⟨w1, hw1⟩ : ∃ w1, w1 = w.alloc (.cells #[.int .i64 t, .int .i64 r, .int .i64 i] 35) := ⟨_, rfl⟩
  have HA : Hid (w.alloc (.cells #[.int .i64 t, .int .i64 r, .int .i64 i] 35) = w1) := hw1.symm
  rw [← hw1] at c1 hl a0 a1 a2 hba
  have HB := Lib.hid hba
  clear hw1 c0 h hn hba
  simp only [nmV] at hl
  show Calls Try.prog 19 #[.pointer (some ⟨S.s, 0, none⟩), .agg #[.int .i64 t, .int .i64 r, .int .i64 i], .bool b] w _
  go_enter Try.func19, Try.ntmps19
  go_upto_region 1 with fail
  rw [HA.out]
  go_quiet (fail)
  go_wp2
  go_ret
  exact ⟨by trivial, below_drewN HB.out _⟩

theorem shShow_any (S : Sf) (x : Nm) (b : Bool) (hx : okNm x) (w : World) (h : ShAt S w) :
    Calls Try.prog 19 #[.pointer (some ⟨S.s, 0, none⟩), nmV x, .bool b] w fun e w' =>
      e = .returned (.int .i64 (if x ∈ (flat S.bks).map Prod.fst then 0 else 111)) ∧ Left S (showL (flat S.bks) x b) w w' := by
  by_cases hm : x ∈ (flat S.bks).map Prod.fst
  · rw [if_pos hm]
    have hm2 := hm
    rw [← asg_names] at hm2
    obtain ⟨⟨y, p⟩, hq, e0⟩ := List.mem_map.1 hm2
    have e0' : y = x := e0
    subst e0'
    obtain ⟨n0, hn0, k0, hk0, e1, e2, e3⟩ := locate hq
    subst e1
    have hat := h.each S.bks[n0] (List.getElem_mem hn0)
    obtain ⟨g, cap, cur, hv, hh, hnc, hcm, hsz, htk⟩ := own_mid hat.2 (by omega)
    have hnf : S.bks[n0].foot.Nodup := by
      have ha := h.apart
      rw [foot_split S hn0] at ha
      exact (List.nodup_append.1 (List.nodup_append.1 (List.nodup_append.1 (List.nodup_append.1 ha).2.1).2.1).2.1).1
    have hgp : g ≠ S.bks[n0].p := by
      intro e
      have := (List.nodup_cons.1 hnf).1
      rw [mem_obs, hv] at this
      exact this (by rw [← e]; rfl)
    have hfw := es_few hn0
    have hfew := h.few
    refine (shShow_walk S.s S.bks[n0].p g S.bks[n0].es.length cap S.hb k0 S.bv b S.bks[n0].es y hk0 rfl (by omega) e3 e2 w h.box (by rw [← hv]; exact hat.1) (by rw [← hv]; exact hat.2) hgp
      (fun w' hb' q => (h.keep hb').home.at hq q)).mono ?_
    rintro e w' ⟨he, r1, r2, r3⟩
    refine ⟨he, { S with bks := S.bks.set n0 ⟨S.bks[n0].p, S.bks[n0].v, S.bks[n0].es.set k0 (S.bks[n0].es[k0].1, b)⟩ }, rfl, ?_, ?_, ?_, ?_⟩
    · have hnd := h.names
      rw [flat_split hn0, List.map_append, List.map_append] at hnd
      obtain ⟨q1, q2, q3⟩ := List.nodup_append.1 hnd
      obtain ⟨q4, q5, q6⟩ := List.nodup_append.1 q1
      have hmE : y ∈ S.bks[n0].es.map Prod.fst := by rw [← e2]; exact List.mem_map_of_mem (List.getElem_mem hk0)
      rw [flat_set hn0, flat_split hn0, showL_append, showL_append, showL_none (l := flat (S.bks.take n0)) (fun hh => q6 y hh y hmE rfl), showL_none (l := flat (S.bks.drop (n0 + 1))) (fun hh => q3 y (List.mem_append_right _ hmE) y hh rfl), showL_set q5 hk0 e2, List.append_assoc]
    · have hF : ∀ k, (k = S.bks[n0].p ∨ k = g) → k < w.heap.size → k ∈ S.bks[n0].foot ∨ k = S.s ∨ k = S.hb ∨ k ∈ obs S.bv := fun k hk _ => by
        left
        rcases hk with rfl | rfl
        · simp [Bk.foot]
        · simp only [Bk.foot, List.mem_cons, mem_obs, hv]; right; rfl
      obtain ⟨p1, p2, p3, p4, p5⟩ := h.parts
      have hfm : ∀ k ∈ S.bks[n0].foot, k ∈ S.bks.flatMap Bk.foot := fun k hk => List.mem_flatMap.2 ⟨_, List.getElem_mem hn0, hk⟩
      have hoff : ∀ k, (k = S.bks[n0].p ∨ k = g) → k ∈ S.bks[n0].foot := fun k hk => by
        rcases hk with rfl | rfl
        · simp [Bk.foot]
        · simp only [Bk.foot, List.mem_cons, mem_obs, hv]; right; rfl
      have hlen : (S.bks.set n0 ⟨S.bks[n0].p, S.bks[n0].v, S.bks[n0].es.set k0 (S.bks[n0].es[k0].1, b)⟩).length = S.bks.length := List.length_set
      have hfl : (flat (S.bks.set n0 ⟨S.bks[n0].p, S.bks[n0].v, S.bks[n0].es.set k0 (S.bks[n0].es[k0].1, b)⟩)).length = (flat S.bks).length := by
        rw [flat_set hn0, flat_split hn0]; simp only [List.length_append, List.length_set]; omega
      have hptr : ptrs (S.bks.set n0 ⟨S.bks[n0].p, S.bks[n0].v, S.bks[n0].es.set k0 (S.bks[n0].es[k0].1, b)⟩) = ptrs S.bks := by
        exact map_same hn0 _ rfl
      have hasg : asg (S.bks.set n0 ⟨S.bks[n0].p, S.bks[n0].v, S.bks[n0].es.set k0 (S.bks[n0].es[k0].1, b)⟩) = asg S.bks := by
        rw [asg_set hn0, asg_split hn0]
        congr 2
        show (S.bks[n0].es.set k0 (S.bks[n0].es[k0].1, b)).map (fun e => (e.1, S.bks[n0].p)) = _
        rw [List.map_set]
        have : ((S.bks[n0].es[k0].1, S.bks[n0].p)) = (S.bks[n0].es.map (fun e => (e.1, S.bks[n0].p)))[k0]'(by simpa using hk0) := by simp
        rw [this, List.set_getElem_self]
      have hft : (({ S with bks := S.bks.set n0 ⟨S.bks[n0].p, S.bks[n0].v, S.bks[n0].es.set k0 (S.bks[n0].es[k0].1, b)⟩ } : Sf).foot) = S.foot := by
        show S.s :: S.hb :: (obs S.bv ++ (S.bks.set n0 _).flatMap Bk.foot) = S.s :: S.hb :: (obs S.bv ++ S.bks.flatMap Bk.foot)
        exact congrArg (fun z => S.s :: S.hb :: (obs S.bv ++ z)) (flatMap_same hn0 Bk.foot rfl)
      refine ⟨?_, ?_, ?_, by rw [hft]; exact h.apart, ?_, ?_, by show (flat (S.bks.set n0 _)).length ≤ _; rw [hfl]; exact h.few, by show (S.bks.set n0 _).length ≤ (flat (S.bks.set n0 _)).length + 1; rw [hfl, hlen]; exact h.short⟩
      · exact (r3.block S.s (heap_lt h.box) (fun hk => (p2 _ (hfm _ (hoff _ hk))).1 rfl)).trans h.box
      · show w'.ownsRow 0 _ 1 S.bv (S.bks.set n0 _).length (ptrs (S.bks.set n0 _))
        rw [hlen, hptr]
        exact own_turn h.row r3 (fun k hk hk2 => (p2 _ (hfm _ (hoff _ hk2))).2.2 (mem_obs.2 hk))
      · intro b2 hb2
        rcases mem_set hb2 with rfl | ⟨j, hj, hne, rfl⟩
        · refine ⟨by rw [← hv] at r1; exact r1, ?_⟩
          show w'.ownsRow 0 _ 4 S.bks[n0].v (S.bks[n0].es.set k0 _).length _
          rw [List.length_set, hv]
          exact r2
        · exact h.other hn0 r3 hF hj hne
      · exact fun e => h.ne (List.eq_nil_of_length_eq_zero (by rw [← hlen]; exact congrArg List.length e))
      · show Home w' S.hb (asg (S.bks.set n0 _))
        rw [hasg]
        exact h.home.turn r3 (fun hk => (p2 _ (hfm _ (hoff _ hk))).2.1 rfl)
    · exact r3.mono (fun k _ hk => by
        rw [Sf.foot]
        simp only [List.mem_cons, List.mem_append]
        right; right; right
        refine List.mem_flatMap.2 ⟨_, List.getElem_mem hn0, ?_⟩
        rcases hk with rfl | rfl
        · simp [Bk.foot]
        · simp only [Bk.foot, List.mem_cons, mem_obs, hv]; right; rfl)
    · intro k hk
      left
      have hft : (({ S with bks := S.bks.set n0 ⟨S.bks[n0].p, S.bks[n0].v, S.bks[n0].es.set k0 (S.bks[n0].es[k0].1, b)⟩ } : Sf).foot) = S.foot := by
        show S.s :: S.hb :: (obs S.bv ++ (S.bks.set n0 _).flatMap Bk.foot) = S.s :: S.hb :: (obs S.bv ++ S.bks.flatMap Bk.foot)
        exact congrArg (fun z => S.s :: S.hb :: (obs S.bv ++ z)) (flatMap_same hn0 Bk.foot rfl)
      rw [hft] at hk
      exact hk
  · rw [if_neg hm, showL_none hm]
    refine (shShow_none S x b hx w h hm).mono ?_
    rintro e w' ⟨he, hb⟩
    exact ⟨he, Left.same h hb⟩

end Go.Proofs.Ytnbgnjpjdplocaa.Q10
