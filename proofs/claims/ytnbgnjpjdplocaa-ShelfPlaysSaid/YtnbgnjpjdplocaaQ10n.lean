/-
  Layer 10: the shelf behind the parting of a block, and behind one more id.
-/
import Derived.Test.YtnbgnjpjdplocaaQ10m
namespace Go.Proofs.Ytnbgnjpjdplocaa.Q10
open Go.RowKit Go.PlainAid
set_option linter.unusedVariables false
set_option linter.unusedSimpArgs false

theorem bks_split {L : List Bk} {n : Nat} (hn : n < L.length) : L = L.take n ++ L[n] :: L.drop (n + 1) := by
  rw [← List.drop_eq_getElem_cons hn, List.take_append_drop]
theorem mem_take {L : List Bk} {n : Nat} {b : Bk} (h : b ∈ L.take n) : ∃ (j : Nat) (hj : j < L.length), j < n ∧ b = L[j] := by
  obtain ⟨j, hj, rfl⟩ := List.getElem_of_mem h
  rw [List.length_take] at hj
  exact ⟨j, by omega, by omega, by rw [List.getElem_take]⟩
theorem mem_drop {L : List Bk} {n : Nat} {b : Bk} (h : b ∈ L.drop (n + 1)) : ∃ (j : Nat) (hj : j < L.length), n < j ∧ b = L[j] := by
  obtain ⟨j, hj, rfl⟩ := List.getElem_of_mem h
  rw [List.length_drop] at hj
  exact ⟨n + 1 + j, by omega, by omega, by rw [List.getElem_drop]⟩
theorem ShAt.block_nod {S : Sf} {w : World} (h : ShAt S w) {n : Nat} (hn : n < S.bks.length) : S.bks[n].foot.Nodup := by
  have ha := h.apart
  rw [foot_split S hn] at ha
  exact (List.nodup_append.1 (List.nodup_append.1 (List.nodup_append.1 (List.nodup_append.1 ha).2.1).2.1).2.1).1
theorem obs_nod (v : Value) : (obs v).Nodup := by
  unfold obs; split <;> simp

theorem part_any (S : Sf) (n : Nat) (hn : n < S.bks.length) (w : World) (h : ShAt S w) (he : 2 ≤ S.bks[n].es.length) (hsz : S.bks.length ≤ (flat S.bks).length) :
    Calls Try.prog 27 #[.pointer (some ⟨S.s, 0, none⟩), .int .i64 (n : Int)] w fun e w' => e = .returned (.tuple #[]) ∧ Left S (flat S.bks) w w' := by
  refine (part_walk S n hn w h he hsz).mono ?_
  rintro e w' ⟨he', q, v1, v2, bv', pa⟩
  refine ⟨he', ⟨S.s, S.hb, bv', S.bks.take n ++ (⟨S.bks[n].p, v1, S.bks[n].es.take (S.bks[n].es.length / 2)⟩ :: ⟨q, v2, S.bks[n].es.drop (S.bks[n].es.length / 2)⟩ :: S.bks.drop (n + 1))⟩, rfl, ?_⟩
  obtain ⟨hf, hhf⟩ : ∃ hf, hf = S.bks[n].es.length / 2 := ⟨_, rfl⟩
  have e1 := pa.b1
  have e2 := pa.b2
  have e3 := pa.home
  rw [← hhf] at e1 e2 e3 ⊢
  have hfl : flat (S.bks.take n ++ (⟨S.bks[n].p, v1, S.bks[n].es.take hf⟩ :: ⟨q, v2, S.bks[n].es.drop hf⟩ :: S.bks.drop (n + 1))) = flat S.bks := by
    rw [flat_split hn, flat_append]
    show flat (S.bks.take n) ++ (S.bks[n].es.take hf ++ (S.bks[n].es.drop hf ++ flat (S.bks.drop (n + 1)))) = _
    rw [← List.append_assoc (S.bks[n].es.take hf), List.take_append_drop, List.append_assoc]
  have hlen : (S.bks.take n ++ (⟨S.bks[n].p, v1, S.bks[n].es.take hf⟩ :: ⟨q, v2, S.bks[n].es.drop hf⟩ :: S.bks.drop (n + 1))).length = S.bks.length + 1 := by
    simp only [List.length_append, List.length_take, List.length_cons, List.length_drop]; omega
  have hptr : ptrs (S.bks.take n ++ (⟨S.bks[n].p, v1, S.bks[n].es.take hf⟩ :: ⟨q, v2, S.bks[n].es.drop hf⟩ :: S.bks.drop (n + 1))) = ins (ptrs S.bks) [.pointer (some ⟨q, 0, none⟩)] (n + 1) := by
    unfold ins ptrs
    rw [← List.map_take, ← List.map_drop, List.take_succ_eq_append_getElem hn]
    simp only [List.map_append, List.map_cons, List.map_nil, List.append_assoc, List.cons_append, List.nil_append]
  have hasg : asg (S.bks.take n ++ (⟨S.bks[n].p, v1, S.bks[n].es.take hf⟩ :: ⟨q, v2, S.bks[n].es.drop hf⟩ :: S.bks.drop (n + 1))) = mid (asg (S.bks.take n)) S.bks[n].es hf S.bks[n].p q (S.bks[n].es.drop hf).length (asg (S.bks.drop (n + 1))) := by
    rw [mid_end, asg_append]; rfl
  have hft : Sf.foot ⟨S.s, S.hb, bv', S.bks.take n ++ (⟨S.bks[n].p, v1, S.bks[n].es.take hf⟩ :: ⟨q, v2, S.bks[n].es.drop hf⟩ :: S.bks.drop (n + 1))⟩ =
      [S.s, S.hb] ++ (obs bv' ++ ((S.bks.take n).flatMap Bk.foot ++ (((S.bks[n].p :: obs v1) ++ (q :: obs v2)) ++ (S.bks.drop (n + 1)).flatMap Bk.foot))) := by
    show S.s :: S.hb :: (obs bv' ++ (S.bks.take n ++ _).flatMap Bk.foot) = _
    rw [List.flatMap_append, List.flatMap_cons, List.flatMap_cons]
    simp [Bk.foot]
  have hlt := h.foot_lt
  have hfs := foot_split S hn
  have hX : ∀ k ∈ (S.bks[n].p :: obs v1) ++ (q :: obs v2), k ∈ S.bks[n].foot ∨ w.heap.size ≤ k := by
    intro k hk
    simp only [List.mem_append, List.mem_cons] at hk
    rcases hk with (rfl | hk) | (rfl | hk)
    · left; simp [Bk.foot]
    · left; rw [pa.ob1] at hk; simp [Bk.foot, hk]
    · right; exact pa.new2.1
    · right; exact (pa.new2.2 k (mem_obs.1 hk)).1
  have hU : ∀ k ∈ obs bv', k ∈ obs S.bv ∨ w.heap.size ≤ k := by
    intro k hk
    rcases pa.newb with hb | ⟨g, hb, hg, _⟩
    · left; rw [mem_obs, ← hb]; exact mem_obs.1 hk
    · right; have := mem_obs.1 hk; rw [hb] at this; injection this with this; omega
  refine ⟨hfl, ⟨pa.box, ?_, ?_, ?_, by simp, ?_, by rw [hfl]; exact h.few, by show _ ≤ (flat _).length + 1; rw [hfl, hlen]; omega⟩, ?_, ?_⟩
  · show w'.ownsRow 0 _ 1 bv' (S.bks.take n ++ _).length (ptrs (S.bks.take n ++ _))
    rw [hlen, hptr]
    exact pa.row
  · intro b hb
    have hF : ∀ k, (k = S.s ∨ k = S.hb ∨ k ∈ obs S.bv ∨ k = S.bks[n].p) → k < w.heap.size → k ∈ S.bks[n].foot ∨ k = S.s ∨ k = S.hb ∨ k ∈ obs S.bv := by
      intro k hk _
      rcases hk with h | h | h | h
      · exact .inr (.inl h)
      · exact .inr (.inr (.inl h))
      · exact .inr (.inr (.inr h))
      · left; rw [h]; simp [Bk.foot]
    rcases List.mem_append.1 hb with hb | hb
    · obtain ⟨j, hj, hjn, rfl⟩ := mem_take hb
      exact h.other hn pa.turn hF hj (by omega)
    · rcases List.mem_cons.1 hb with rfl | hb
      · exact e1
      · rcases List.mem_cons.1 hb with rfl | hb
        · exact e2
        · obtain ⟨j, hj, hjn, rfl⟩ := mem_drop hb
          exact h.other hn pa.turn hF hj (by omega)
  · rw [hft]
    refine nod_swap (N := w.heap.size) (by rw [← hfs]; exact h.apart) (by rw [← hfs]; exact hlt) (obs_nod _) ?_ hU hX ?_
    · have hb1 : (S.bks[n].p :: obs v1).Nodup := by rw [pa.ob1]; exact h.block_nod hn
      rw [List.nodup_append]
      refine ⟨hb1, ?_, ?_⟩
      · rw [List.nodup_cons]
        exact ⟨fun hk => (pa.new2.2 q (mem_obs.1 hk)).2 rfl, obs_nod _⟩
      · intro a ha b hb e
        subst e
        have hol : a < w.heap.size := by
          have : a ∈ S.bks[n].foot := by rw [pa.ob1] at ha; exact ha
          exact hlt a (by rw [hfs]; simp [this])
        rcases List.mem_cons.1 hb with rfl | hb
        · have := pa.new2.1; omega
        · have := (pa.new2.2 a (mem_obs.1 hb)).1; omega
    · intro k hk hk2
      have hk' := mem_obs.1 hk
      rcases pa.newb with hb | ⟨g, hb, hg, hgq, hgv⟩
      · have hol : k ∈ obs S.bv := by rw [mem_obs, ← hb]; exact hk'
        have hlk : k < w.heap.size := hlt k (by rw [hfs]; simp [hol])
        rcases hX k hk2 with h' | h'
        · have := (h.parts.2.1 k (List.mem_flatMap.2 ⟨_, List.getElem_mem hn, h'⟩)).2.2
          exact this hol
        · omega
      · rw [hb] at hk'
        injection hk' with hk'
        subst hk'
        simp only [List.mem_append, List.mem_cons] at hk2
        rcases hk2 with (h' | h') | (h' | h')
        · have : g < w.heap.size := by rw [h']; exact hlt _ (by rw [hfs]; simp [Bk.foot])
          omega
        · have : g < w.heap.size := hlt _ (by rw [pa.ob1] at h'; rw [hfs]; simp [Bk.foot, h'])
          omega
        · exact hgq h'
        · exact hgv (mem_obs.1 h')
  · show Home w' S.hb (asg _)
    rw [hasg]
    exact e3
  · refine pa.turn.mono (fun k _ hk => ?_)
    rw [hfs]
    rcases hk with h' | h' | h' | h'
    · simp [h']
    · simp [h']
    · simp [h']
    · simp [h', Bk.foot]
  · intro k hk
    rw [hft] at hk
    rw [hfs]
    simp only [List.mem_append, List.mem_cons, List.not_mem_nil, or_false] at hk ⊢
    rcases hk with h' | h' | h' | h' | h'
    · exact .inl (.inl h')
    · rcases hU k h' with h'' | h''
      · exact .inl (.inr (.inl h''))
      · exact .inr h''
    · exact .inl (.inr (.inr (.inl h')))
    · rcases hX k (by simp only [List.mem_append, List.mem_cons]; exact h') with h'' | h''
      · exact .inl (.inr (.inr (.inr (.inl h''))))
      · exact .inr h''
    · exact .inl (.inr (.inr (.inr (.inr h'))))

def insEn (es : List En) (m : Nat) (x : En) : List En := es.take m ++ x :: es.drop m
theorem ens_ins (es : List En) (m : Nat) (x : En) : ens (insEn es m x) = ins (ens es) (enC x) (m * 4) := by
  unfold insEn ins
  rw [ens_append, ens_cons, ens_take, ens_drop, List.append_assoc]
theorem insEn_len {es : List En} {m : Nat} (h : m ≤ es.length) (x : En) : (insEn es m x).length = es.length + 1 := by
  simp [insEn]; omega
theorem insEn_mid {A es B : List En} {m : Nat} (h : m ≤ es.length) (x : En) : insEn (A ++ es ++ B) (A.length + m) x = A ++ (insEn es m x ++ B) := by
  unfold insEn
  rw [List.append_assoc, List.take_length_add_append, List.drop_length_add_append, List.take_append_of_le_length h, List.drop_append_of_le_length h]
  simp

/-- The shelf behind one more id, before a block is parted. -/
theorem put1 (S : Sf) (n : Nat) (hn : n < S.bks.length) (m : Nat) (hm : m ≤ S.bks[n].es.length) (x : En) (w w' : World) (h : ShAt S w) (v' : Value)
    (hbox : w'.heap[S.bks[n].p]? = some (.cells #[v', .int .i64 (seenN (insEn S.bks[n].es m x))] 57 (0, 0)))
    (hown : w'.ownsRow 0 63 4 v' (S.bks[n].es.length + 1) (ens (insEn S.bks[n].es m x)))
    (hob : v'.ownBlock = S.bks[n].v.ownBlock ∨ ∃ g, v'.ownBlock = some g ∧ w.heap.size ≤ g)
    (hhome : ∀ ys : List (Nm × Nat), ys.Perm ((x.1, S.bks[n].p) :: asg S.bks) → Home w' S.hb ys)
    (ht : Turn (fun k => k ∈ S.bks[n].foot ∨ k = S.hb) w w') (hfew : (flat S.bks).length + 1 ≤ 100000) :
    ∃ S1, S1.s = S.s ∧ flat S1.bks = insEn (flat S.bks) ((flat (S.bks.take n)).length + m) x ∧ ShAt S1 w' ∧ Turn (fun k => k ∈ S.foot) w w' ∧ (∀ k ∈ S1.foot, k ∈ S.foot ∨ w.heap.size ≤ k) ∧
      S1.bks.length ≤ (flat S1.bks).length ∧ ∃ h1 : n < S1.bks.length, S1.bks[n].es.length = S.bks[n].es.length + 1 := by
  have hle := insEn_len hm x
  have hfl : flat (S.bks.set n ⟨S.bks[n].p, v', insEn S.bks[n].es m x⟩) = insEn (flat S.bks) ((flat (S.bks.take n)).length + m) x := by
    rw [flat_set hn, flat_split hn, insEn_mid hm]
  have hlen : (S.bks.set n ⟨S.bks[n].p, v', insEn S.bks[n].es m x⟩).length = S.bks.length := List.length_set
  have hll : (flat (S.bks.set n ⟨S.bks[n].p, v', insEn S.bks[n].es m x⟩)).length = (flat S.bks).length + 1 := by
    rw [hfl, insEn_len]
    have := es_few hn
    omega
  have hfs := foot_split S hn
  have hft : Sf.foot ⟨S.s, S.hb, S.bv, S.bks.set n ⟨S.bks[n].p, v', insEn S.bks[n].es m x⟩⟩ = [S.s, S.hb] ++ (obs S.bv ++ ((S.bks.take n).flatMap Bk.foot ++ ((S.bks[n].p :: obs v') ++ (S.bks.drop (n + 1)).flatMap Bk.foot))) := by
    show S.s :: S.hb :: (obs S.bv ++ (S.bks.set n _).flatMap Bk.foot) = _
    rw [set_split hn, List.flatMap_append, List.flatMap_cons]
    simp [Bk.foot]
  have hlt := h.foot_lt
  obtain ⟨p1, p2, p3, p4, p5⟩ := h.parts
  have hfm : ∀ k ∈ S.bks[n].foot, k ∈ S.bks.flatMap Bk.foot := fun k hk => List.mem_flatMap.2 ⟨_, List.getElem_mem hn, hk⟩
  have hX : ∀ k ∈ S.bks[n].p :: obs v', k ∈ S.bks[n].foot ∨ w.heap.size ≤ k := by
    intro k hk
    rcases List.mem_cons.1 hk with rfl | hk
    · left; simp [Bk.foot]
    · rcases hob with hb | ⟨g, hb, hg⟩
      · left; simp only [Bk.foot, List.mem_cons, mem_obs]; right; rw [← hb]; exact mem_obs.1 hk
      · right; have := mem_obs.1 hk; rw [hb] at this; injection this with this; omega
  refine ⟨⟨S.s, S.hb, S.bv, S.bks.set n ⟨S.bks[n].p, v', insEn S.bks[n].es m x⟩⟩, rfl, hfl, ⟨?_, ?_, ?_, ?_, ?_, ?_, by show (flat _).length ≤ _; rw [hll]; exact hfew, by show (S.bks.set n _).length ≤ (flat (S.bks.set n _)).length + 1; rw [hll, hlen]; have := h.short; omega⟩, ?_, ?_, by show (S.bks.set n _).length ≤ (flat (S.bks.set n _)).length; rw [hll, hlen]; exact h.short, by show n < (S.bks.set n _).length; rw [hlen]; exact hn, by simp [hle]⟩
  · exact (ht.block S.s (heap_lt h.box) (fun hk => by
      rcases hk with hk | hk
      · exact (p2 _ (hfm _ hk)).1 rfl
      · exact p3 hk)).trans h.box
  · show w'.ownsRow 0 _ 1 S.bv (S.bks.set n _).length (ptrs (S.bks.set n _))
    have hptr : ptrs (S.bks.set n ⟨S.bks[n].p, v', insEn S.bks[n].es m x⟩) = ptrs S.bks := map_same hn _ rfl
    rw [hlen, hptr]
    exact own_turn h.row ht (fun k hk hk2 => by
      rcases hk2 with hk2 | hk2
      · exact (p2 _ (hfm _ hk2)).2.2 (mem_obs.2 hk)
      · subst hk2; exact p5 (mem_obs.2 hk))
  · intro b hb
    rcases mem_set hb with rfl | ⟨j, hj, hne, rfl⟩
    · refine ⟨hbox, ?_⟩
      show w'.ownsRow 0 _ 4 v' (insEn _ _ _).length _
      rw [hle]
      exact hown
    · exact h.other hn ht (fun k hk _ => by
        rcases hk with hk | hk
        · exact .inl hk
        · exact .inr (.inr (.inl hk))) hj hne
  · rw [hft]
    refine nod_swap (N := w.heap.size) (by rw [← hfs]; exact h.apart) (by rw [← hfs]; exact hlt) (obs_nod _) ?_ (fun k hk => .inl hk) hX ?_
    · rw [List.nodup_cons]
      refine ⟨fun hk => ?_, obs_nod _⟩
      rcases hob with hb | ⟨g, hb, hg⟩
      · have := (List.nodup_cons.1 (h.block_nod hn)).1
        exact this (mem_obs.2 (by rw [← hb]; exact mem_obs.1 hk))
      · have := mem_obs.1 hk
        rw [hb] at this
        injection this with this
        have h9 : S.bks[n].p < w.heap.size := hlt _ (by rw [hfs]; simp [Bk.foot])
        omega
    · intro k hk hk2
      rcases hX k hk2 with h' | h'
      · exact (p2 _ (hfm _ h')).2.2 hk
      · have : k < w.heap.size := hlt k (by rw [hfs]; simp [hk])
        omega
  · exact fun e => h.ne (List.eq_nil_of_length_eq_zero (by rw [← hlen]; exact congrArg List.length e))
  · show Home w' S.hb (asg (S.bks.set n _))
    refine hhome _ ?_
    rw [asg_set hn, asg_split hn]
    have hp : ((insEn S.bks[n].es m x).map (fun e => (e.1, S.bks[n].p))).Perm ((x.1, S.bks[n].p) :: S.bks[n].es.map (fun e => (e.1, S.bks[n].p))) := by
      unfold insEn
      rw [List.map_append, List.map_cons]
      refine List.perm_middle.trans ?_
      rw [← List.map_append, List.take_append_drop]
    exact ((hp.append_right _).append_left _).trans List.perm_middle
  · refine ht.mono (fun k _ hk => ?_)
    rw [hfs]
    rcases hk with hk | hk
    · simp [hk]
    · simp [hk]
  · intro k hk
    rw [hft] at hk
    rw [hfs]
    simp only [List.mem_append, List.mem_cons, List.not_mem_nil, or_false] at hk ⊢
    rcases hk with h' | h' | h' | h' | h'
    · exact .inl (.inl h')
    · exact .inl (.inr (.inl h'))
    · exact .inl (.inr (.inr (.inl h')))
    · rcases hX k (by simp only [List.mem_cons]; exact h') with h'' | h''
      · exact .inl (.inr (.inr (.inr (.inl h''))))
      · exact .inr h''
    · exact .inl (.inr (.inr (.inr (.inr h'))))

end Go.Proofs.Ytnbgnjpjdplocaa.Q10
