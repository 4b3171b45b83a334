/-
  Layer 10, walks: the library's Insert of one element, at entries (four cells) and at pointers to blocks (one cell).
-/
import Derived.Test.YtnbgnjpjdplocaaQ10a
import Derived.Maps.AppendAt
import Derived.Lib.Walk
import Derived.Shelf.RegionOpenPlain
import Derived.Laws.Externs
namespace Go.Proofs.Ytnbgnjpjdplocaa.Q10
open Go.RowKit
set_option linter.unusedVariables false
set_option linter.unusedSimpArgs false


theorem mixed_orders : Try.prog.follows .mixedOrders = true := by kernel_rfl
def ins (xs vs : List Value) (i : Nat) : List Value := xs.take i ++ vs ++ xs.drop i
theorem ins_end {xs vs : List Value} {i : Nat} (h : i = xs.length) : ins xs vs i = xs ++ vs := by subst h; simp [ins]
theorem over_ins {cur : List Value} {a b v : Nat} {vs : List Value} (hv : vs.length = v) (hab : a ≤ b) (hb : b + v ≤ cur.length) :
    (over (over cur ((cur.take b).drop a) (a + v)) vs a).take (b + v) = ins (cur.take b) vs a := by
  subst hv
  apply List.ext_getElem?
  intro j
  simp only [over, ins]
  rw [List.getElem?_take]
  simp only [List.getElem?_append, List.length_append, List.length_take, List.length_drop, List.getElem?_take, List.getElem?_drop, List.length_take]
  have m1 : min a cur.length = a := by omega
  have m2 : min b cur.length = b := by omega
  have m3 : min (a + vs.length) cur.length = a + vs.length := by omega
  simp only [m1, m2, m3]
  have m4 : min a (a + vs.length + (b - a) + (cur.length - (a + vs.length + (b - a)))) = a := by omega
  have m5 : min a b = a := by omega
  simp only [m4, m5]
  by_cases c1 : j < a
  · have c2 : j < b + vs.length := by omega
    have c3 : j < a + vs.length := by omega
    have c4 : j < a + vs.length + (b - a) := by omega
    have c5 : j < b := by omega
    simp [c1, c2, c3, c4, c5]
  · by_cases c2 : j < a + vs.length
    · have c3 : j < b + vs.length := by omega
      have c4 : j - a < vs.length := by omega
      simp [c1, c2, c3, c4]
    · have d1 : a + vs.length + (j - (a + vs.length)) = j := by omega
      by_cases c3 : j < b + vs.length
      · have c4 : j < a + vs.length + (b - a) := by omega
        have c6 : j - (a + vs.length) < b - a := by omega
        have c7 : a + (j - (a + vs.length)) < b := by omega
        simp [c1, c2, c3, c4, d1, c6, c7]
      · have c4 : ¬ a + (j - (a + vs.length)) < b := by omega
        simp [c1, c2, c3, c4]
theorem over_grow {x z vs d : List Value} {a v : Nat} (hx : x.length = a) (hv : a + vs.length = v) {t : Nat} (ht : v + d.length = t) (hz : d.length + vs.length ≤ z.length) :
    (over (over (x ++ z) vs a) d v).take t = x ++ vs ++ d := by
  subst hx hv ht
  have e1 : over (x ++ z) vs x.length = x ++ vs ++ z.drop vs.length := by
    unfold over
    rw [List.take_left, List.drop_append, List.drop_of_length_le (by omega)]
    simp
  rw [e1]
  have e2 : over (x ++ vs ++ z.drop vs.length) d (x.length + vs.length) = x ++ vs ++ d ++ (z.drop vs.length).drop d.length := by
    unfold over
    have : x.length + vs.length = (x ++ vs).length := by simp
    rw [this, List.take_left, List.drop_append, List.drop_of_length_le (by omega)]
    simp
  rw [e2]
  have : x.length + vs.length + d.length = (x ++ vs ++ d).length := by simp; omega
  rw [this, List.take_left]
theorem own_cap {w : World} {e k n : Nat} {v : Value} {xs : List Value} (h : w.ownsRow 0 e k v n xs) : n ≤ 9223372036854775807 := by
  rcases h.2 with ⟨_, h0⟩ | ⟨g, cap, cur, _, _, _, h1, h2, _⟩
  · omega
  · unfold maxLen at h2; omega
theorem cells_at {w : World} {b : Nat} {cur : Array Value} {t : TypeId} {fr : Nat × Nat} (h : w.heap[b]? = some (.cells cur t fr)) (j : Nat) : w.cell? ⟨b, j, none⟩ = cur[j]? := by
  simp [World.cell?, h]
theorem frozen_at {w : World} {b : Nat} {cur : Array Value} {t : TypeId} (h : w.heap[b]? = some (.cells cur t (0, 0))) (j : Nat) : w.frozen? ⟨b, j, none⟩ = false := by
  simp [World.frozen?, h]
theorem shape_at {w : World} {b : Nat} {cur : Array Value} {t : TypeId} {fr : Nat × Nat} (h : w.heap[b]? = some (.cells cur t fr)) : w.shape? b = some (t, cur.size) := by
  simp [World.shape?, h]
theorem add0 (b j : Nat) : (⟨b, 0, none⟩ : Addr).add j = ⟨b, j, none⟩ := by rw [add_none, Nat.zero_add]

theorem infoE : (Try.prog.info? 63).map (fun i => (i.zero, i.size, i.bytes)) = some (some (.agg #[.int .i64 0, .int .i64 0, .int .i64 0, .bool false]), 4, 32) := by kernel_rfl
theorem sizeE : (Try.prog.info? 63).map (·.size) = some 4 := by kernel_rfl
theorem sliceE_fr {b n c i : Nat} (h : i ≤ n) (hc : c ≠ i) (w : World) :
    (Instr.slice 55 (.slice (some ⟨b, 0, none⟩) n c) (some (.int .i64 (i : Int))) none none).run Try.prog w = .ok (.slice (some ⟨b, i * 4, none⟩) (n - i) (c - i)) w := by
  have h2 : (i : Int) ≤ (n : Int) := by omega
  have h0 : (0 : Int) ≤ (i : Int) := by omega
  go_simp
theorem sliceE_fr0 {A : Option Addr} {n c i : Nat} (h : i ≤ n) (w : World) :
    ∃ x, (Instr.slice 55 (.slice A n c) (some (.int .i64 (i : Int))) none none).run Try.prog w = .ok x w := by
  have h2 : (i : Int) ≤ (n : Int) := by omega
  have h0 : (0 : Int) ≤ (i : Int) := by omega
  refine ⟨.slice (if c = i then A else A.map (·.add (i * 4))) (n - i) (c - i), ?_⟩
  go_simp
theorem sliceE_to {b n c i : Nat} (h : i ≤ c) (w : World) :
    (Instr.slice 55 (.slice (some ⟨b, 0, none⟩) n c) none (some (.int .i64 (i : Int))) none).run Try.prog w = .ok (.slice (some ⟨b, 0, none⟩) i c) w := by
  have h2 : (i : Int) ≤ (c : Int) := by omega
  have h0 : (0 : Int) ≤ (i : Int) := by omega
  go_simp

set_option maxRecDepth 100000 in
set_option maxHeartbeats 1000000 in
theorem insE_end (v : Value) (n vb : Nat) (xs vs : List Value) (w : World) (hown : w.ownsRow 0 63 4 v n xs) (hn : n ≤ 1000000) (hvl : vs.length = 4)
    (hvs : w.heap[vb]? = some (.cells vs.toArray 63 (0, 0))) (h1v : ∀ u ∈ vs, u.oneCell' = true) :
    Calls Try.prog 25 #[v, .int .i64 n, .slice (some ⟨vb, 0, none⟩) 1 1] w fun e w' => ∃ v', e = .returned v' ∧ w'.ownsRow 0 63 4 v' (n + 1) (xs ++ vs) ∧ w.grownBy w' v.ownBlock ∧ (v'.ownBlock = v.ownBlock ∨ v'.ownBlock = some w.heap.size) := by
  obtain ⟨i0, hi, hz0, hz1, hz2⟩ := info_parts infoE
  have H0 := Lib.hid hown
  have hvc : ∀ j u, vs[j]? = some u → w.cell? ((⟨vb, 0, none⟩ : Addr).add j) = some u := fun j u hu => by
    rw [add0, cells_at hvs]; simpa using hu
  have HV := Lib.hid hvc
  clear hvc hvs
  obtain ⟨A, c, rfl, hnc⟩ : ∃ A c, v = .slice A n c ∧ n ≤ c := by
    rcases hown.2 with ⟨rfl, rfl⟩ | ⟨g, cap, cur, rfl, _, _, hc, _⟩
    · exact ⟨none, 0, rfl, Nat.le_refl _⟩
    · exact ⟨_, cap, rfl, hc⟩
  clear hown
  obtain ⟨x0, hx0⟩ := sliceE_fr0 (A := A) (n := n) (c := c) (Nat.le_refl n) w
  go_enter Try.func25, Try.ntmps25
  go_wp2_with (first
    | (at_builtin; refine wpList_append_own_at _ rfl _ _ 55 rfl 0 63 i0 (.agg #[.int .i64 0, .int .i64 0, .int .i64 0, .bool false]) 4 32 Try.underlying55 hi hz0 hz1 hz2 rfl (by decide) (.slice A n c) n xs rfl H0.out ⟨vb, 0, none⟩ 1 1 vs rfl (by rw [hvl]) HV.out h1v (by unfold maxLen; omega) (by omega) (Nat.zero_le _) ?_; intro v' w1 hown1 hg1 hnil hloc))
  go_ret
  exact ⟨v', rfl, hown1, hg1, hloc⟩

set_option maxRecDepth 100000 in
set_option maxHeartbeats 1000000 in
theorem insE_room (b n c i vb : Nat) (cur : Array Value) (vs : List Value) (w : World) (hh : w.heap[b]? = some (.cells cur 63 (0, 0))) (hcs : cur.size = c * 4) (hi : i < n) (hroom : n + 1 ≤ c) (hn : n ≤ 1000000) (hc63 : c ≤ 9223372036854775807)
    (hvb : vb ≠ b) (hvl : vs.length = 4) (hvs : w.heap[vb]? = some (.cells vs.toArray 63 (0, 0))) (h1c : ∀ u ∈ cur.toList.take (n * 4), u.oneCell' = true) (h1v : ∀ u ∈ vs, u.oneCell' = true) :
    Calls Try.prog 25 #[.slice (some ⟨b, 0, none⟩) n c, .int .i64 i, .slice (some ⟨vb, 0, none⟩) 1 1] w fun e w' =>
      e = .returned (.slice (some ⟨b, 0, none⟩) (n + 1) c) ∧ w' = (w.drew.setCells b ((i + 1) * 4) ((cur.toList.take (n * 4)).drop (i * 4))).setCells b (i * 4) vs := by
  obtain ⟨cs, hcse⟩ : ∃ cs, cs = cur.toList.take (n * 4) := ⟨_, rfl⟩
  rw [← hcse] at h1c ⊢
  have hcl : cs.length = n * 4 := by rw [hcse, List.length_take]; simp <;> omega
  have hcc : ∀ j v, cs[j]? = some v → w.cell? ⟨b, j, none⟩ = some v := fun j v hj => by
    rw [cells_at hh]
    rw [hcse, List.getElem?_take] at hj
    split at hj
    · simpa using hj
    · cases hj
  have hvc : ∀ j u, vs[j]? = some u → w.cell? ⟨vb, j, none⟩ = some u := fun j u hu => by
    rw [cells_at hvs]; simpa using hu
  have hsp : ∀ j, j < c * 4 → (w.cell? ⟨b, j, none⟩).isSome = true := fun j hj => by
    rw [cells_at hh, Array.getElem?_eq_getElem (by omega)]; rfl
  have hfz : ∀ j, w.frozen? ⟨b, j, none⟩ = false := fun j => frozen_at hh j
  have hsz := sizeE
  have mixed := mixed_orders
  have hov : ∀ lb cb, (callFunc 33 #[.slice (some ⟨vb, 0, none⟩) 1 1, .slice (some ⟨b, (i + 1) * 4, none⟩) lb cb]).run Try.prog w = .ok (.value (.bool false)) w := fun lb cb => by
    rw [run_callFunc_extern Try.func33 (by kernel_rfl) (by kernel_rfl) (by kernel_rfl) (e := Extern.SlicesOverlaps.overlaps #[55, 55] #[4]) (by kernel_rfl),
      Lib.run_overlaps_apart w 55 4 63 Try.underlying55 4 (fun w => by kernel_rfl) ⟨vb, 0, none⟩ ⟨b, (i + 1) * 4, none⟩ 1 1 lb cb hvb _ _ _ _ (shape_at hvs) (shape_at hh) (by omega) (frozen_at hvs 0) (frozen_at hvs _)]
    rfl
  have hdl : (cs.drop (i * 4)).length = (n - i) * 4 := by rw [List.length_drop, hcl]; omega
  have hcp1 : ∀ ty dc sc, (Builtin.copy_ #[55, 55] ty #[.slice (some ⟨b, (i + 1) * 4, none⟩) (n - i) dc, .slice (some ⟨b, i * 4, none⟩) (n + 1 - i) sc]).run Try.prog w.drew = .ok (goInt (Nat.min (n + 1 - i) (n - i))) (w.drew.setCells b ((i + 1) * 4) (cs.drop (i * 4))) := fun ty dc sc =>
    run_copy_k 4 w.drew 55 55 ty 63 b ((i + 1) * 4) (n - i) dc ⟨b, i * 4, none⟩ (n + 1 - i) sc (cs.drop (i * 4)) Try.underlying55 hsz (by rw [hdl]; congr 1; simp only [Nat.min_def]; split <;> omega)
      (fun j v hj => by rw [Addr.add_mid]; exact hcc (i * 4 + j) v (by rwa [List.getElem?_drop] at hj))
      (fun j hj => hsp _ (by rw [hdl] at hj; omega)) (fun j hj => hfz _) (fun v hv => h1c v (List.mem_of_mem_drop hv))
  obtain ⟨W1, hW1⟩ : ∃ W1, W1 = w.drew.setCells b ((i + 1) * 4) (cs.drop (i * 4)) := ⟨_, rfl⟩
  have hsp1 : ∀ k, k < c * 4 → (W1.cell? ⟨b, k, none⟩).isSome = true := fun k hk => by
    rw [hW1]
    exact World.isSome_setCells b _ _ _ _ (hsp k hk)
  have hcp2 : ∀ (W : World), (∀ x, W.cell? x = W1.cell? x) → (∀ x, W.frozen? x = W1.frozen? x) → ∀ ty dc, (Builtin.copy_ #[55, 55] ty #[.slice (some ⟨b, i * 4, none⟩) (n + 1 - i) dc, .slice (some ⟨vb, 0, none⟩) 1 1]).run Try.prog W = .ok (goInt (Nat.min 1 (n + 1 - i))) (W.setCells b (i * 4) vs) := fun W hWc hWf ty dc =>
    run_copy_k 4 W 55 55 ty 63 b (i * 4) (n + 1 - i) dc ⟨vb, 0, none⟩ 1 1 vs Try.underlying55 hsz (by rw [hvl]; simp only [Nat.min_def]; split <;> omega)
      (fun j v hj => by
        rw [add0, hWc, hW1, World.cell?_setCells_out b _ _ _ _ (fun h _ => absurd h hvb)]
        exact hvc j v hj)
      (fun j hj => by rw [hWc]; exact hsp1 _ (by rw [hvl] at hj; omega)) (fun j hj => by rw [hWf, hW1, World.frozen?_setCells]; exact hfz _) h1v
  rw [← hW1] at hcp1
  rw [← hW1]
  have hz2 : ¬ ((i : Int) = (n : Int)) := by omega
  have hw1 : IntKind.i64.wrap ((i : Int) + 1) = (i : Int) + 1 := by rw [IntKind.wrap_i64]; omega
  have hb1 : (0 : Int) ≤ (i : Int) + 1 := by omega
  have hin : i ≤ n := by omega
  have htn : ((i : Int) + 1).toNat = i + 1 := by omega
  have hb2 : ¬ (c = i + 1) := by omega
  have hb3 : (i : Int) ≤ (n : Int) + 1 := by omega
  have hb4 : ¬ (c = i) := by omega
  clear hsp hfz hsp1 hcc hvc hcse hh hvs hdl h1c hcl hcs
  go_enter Try.func25, Try.ntmps25
  go_wp2_with (simp only [hov])
  go_region_law_o (refine step_copy_runI rfl _ _ 55 55 rfl _ _ (by simp [Act.eval, Act.put]) (by simp [Act.eval, Act.put]) (hcp1 _ _ _) ?_)
  go_wp2_with (at_builtin; refine wpList_copy_runI _ rfl _ _ 55 55 rfl _ _ rfl rfl (hcp2 _ (fun _ => rfl) (fun _ => rfl) _ _) ?_)
  go_ret
  exact ⟨rfl, by rw [hW1]⟩

set_option maxRecDepth 100000 in
set_option maxHeartbeats 1000000 in
theorem insE_grow (b n i vb : Nat) (cur : Array Value) (vs : List Value) (w : World) (hh : w.heap[b]? = some (.cells cur 63 (0, 0))) (hcs : cur.size = n * 4) (hi : i < n) (hn : n ≤ 1000000)
    (hvl : vs.length = 4) (hvs : w.heap[vb]? = some (.cells vs.toArray 63 (0, 0))) (h1c : ∀ u ∈ cur.toList, u.oneCell' = true) (h1v : ∀ u ∈ vs, u.oneCell' = true) :
    Calls Try.prog 25 #[.slice (some ⟨b, 0, none⟩) n n, .int .i64 i, .slice (some ⟨vb, 0, none⟩) 1 1] w fun e w' => ∃ v', e = .returned v' ∧ w'.ownsRow 0 63 4 v' (n + 1) (ins cur.toList vs (i * 4)) ∧ Below w.heap.size w w' ∧ v'.ownBlock = some w.heap.size := by
  obtain ⟨i0, hi0, hz0, hzs, hzb⟩ := info_parts infoE
  obtain ⟨cs, hcse⟩ : ∃ cs, cs = cur.toList := ⟨_, rfl⟩
  rw [← hcse] at h1c ⊢
  have hcl : cs.length = n * 4 := by rw [hcse]; simp <;> omega
  have hcc : ∀ j v, cs[j]? = some v → w.cell? ⟨b, j, none⟩ = some v := fun j v hj => by
    rw [cells_at hh]
    rw [hcse] at hj
    simpa using hj
  have hvc : ∀ j u, vs[j]? = some u → w.cell? ⟨vb, j, none⟩ = some u := fun j u hu => by
    rw [cells_at hvs]; simpa using hu
  have hsz := sizeE
  have mixed := mixed_orders
  have hbw : b < w.heap.size := (Array.getElem?_eq_some_iff.1 hh).1
  have hvw : vb < w.heap.size := (Array.getElem?_eq_some_iff.1 hvs).1
  have hik : i + (n + 1 - i) = n + 1 := by omega
  have hkk : (n : Int) + 1 - (i : Int) = ((n + 1 - i : Nat) : Int) := by omega
  have hold : (Builtin.firstCells i0.size i (.slice (some ⟨b, 0, none⟩) i n)).run Try.prog w.drew = .ok (cs.take (i * 4)).toArray w.drew := by
    rw [hzs]
    exact run_firstCells_some w.drew 4 i ⟨b, 0, none⟩ i n (cs.take (i * 4)) (by rw [List.length_take]; omega) (fun j v hj => by
      rw [add0]
      rw [List.getElem?_take] at hj
      split at hj
      · exact hcc j v hj
      · cases hj)
  obtain ⟨G, hG⟩ : ∃ G, G = grownCap w (n + 1) n 63 := ⟨_, rfl⟩
  obtain ⟨ROW, hROW⟩ : ∃ ROW : Array Value, ROW = (cs.take (i * 4)).toArray ++ Builtin.zeroCells (.agg #[.int .i64 0, .int .i64 0, .int .i64 0, .bool false] : Value).cells (n + 1 - i) ++ Builtin.zeroCells (.agg #[.int .i64 0, .int .i64 0, .int .i64 0, .bool false] : Value).cells (G - (n + 1)) := ⟨_, rfl⟩
  have hrz : ∀ ty, (Builtin.append_ #[55, 3] ty #[.slice (some ⟨b, 0, none⟩) i n, .int .i64 ((n : Int) + 1 - (i : Int))]).run Try.prog w =
      .ok (.slice (some ⟨w.heap.size, 0, none⟩) (n + 1) G) (w.drew.alloc (.cells ROW 63)) := fun ty => by
    have h := Lib.run_append_grow_zeros w 55 3 ty 63 i0 _ .i64 .i64 Try.underlying55 Try.underlying3 hi0 hz0 (some ⟨b, 0, none⟩) i n (cs.take (i * 4)) hold (n + 1 - i) (by omega) (by omega) (by omega) (by omega) (by rw [hzb]; omega) (by rw [hzb, hik]; exact growslice_fits (by omega) (by omega))
    rw [hik, ← hG, ← hROW] at h
    rw [hkk]
    exact h
  have hGn : n + 1 ≤ G := by rw [hG]; exact grownCap_ge w _ _ _
  have hGm : G ≤ maxLen := by rw [hG]; exact grownCap_le_maxLen w (n + 1) n 63 (by unfold maxLen; omega)
  have hG63 : G ≤ 9223372036854775807 := by have := hGm; unfold maxLen at this; omega
  have hRs : ROW.size = G * 4 := by
    rw [hROW]
    simp only [Array.size_append, List.size_toArray, size_zeroCells, List.length_take, hcl]
    show min (i * 4) (n * 4) + (n + 1 - i) * 4 + (G - (n + 1)) * 4 = _
    omega
  obtain ⟨W1, hW1⟩ : ∃ W1, W1 = w.drew.alloc (.cells ROW 63) := ⟨_, rfl⟩
  rw [← hW1] at hrz
  have hN : ∀ j, j < G * 4 → (W1.cell? ⟨w.heap.size, j, none⟩).isSome = true := fun j hj => by
    rw [hW1, World.cell?_alloc_at (w := w.drew) ROW _ w.heap.size j rfl, Array.getElem?_eq_getElem (by omega)]; rfl
  have hNf : ∀ j, W1.frozen? ⟨w.heap.size, j, none⟩ = false := fun j => by rw [hW1]; exact World.frozen?_alloc_at (w := w.drew) ROW _ w.heap.size j rfl
  have hOb : ∀ j v, w.cell? ⟨b, j, none⟩ = some v → W1.cell? ⟨b, j, none⟩ = some v := fun j v h => by rw [hW1, World.cell?_alloc_past (w := w.drew) _ b j hbw]; exact h
  have hOv : ∀ j v, w.cell? ⟨vb, j, none⟩ = some v → W1.cell? ⟨vb, j, none⟩ = some v := fun j v h => by rw [hW1, World.cell?_alloc_past (w := w.drew) _ vb j hvw]; exact h
  have hcpA : ∀ (W : World), (∀ x, W.cell? x = W1.cell? x) → (∀ x, W.frozen? x = W1.frozen? x) → ∀ ty dc, (Builtin.copy_ #[55, 55] ty #[.slice (some ⟨w.heap.size, i * 4, none⟩) (n + 1 - i) dc, .slice (some ⟨vb, 0, none⟩) 1 1]).run Try.prog W = .ok (goInt (Nat.min 1 (n + 1 - i))) (W.setCells w.heap.size (i * 4) vs) := fun W hWc hWf ty dc =>
    run_copy_k 4 W 55 55 ty 63 w.heap.size (i * 4) (n + 1 - i) dc ⟨vb, 0, none⟩ 1 1 vs Try.underlying55 hsz (by rw [hvl]; simp only [Nat.min_def]; split <;> omega)
      (fun j v hj => by rw [add0, hWc]; exact hOv _ v (hvc j v hj))
      (fun j hj => by rw [hWc]; exact hN _ (by rw [hvl] at hj; omega)) (fun j hj => by rw [hWf]; exact hNf _) h1v
  have hGi : ¬ (G = i) := by omega
  have hGim : ¬ (G = i + 1) := by omega
  have hci : ¬ (n = i) := by omega
  have hbN : b ≠ w.heap.size := by omega
  have hdl : (cs.drop (i * 4)).length = (n - i) * 4 := by rw [List.length_drop, hcl]; omega
  have hcpB : ∀ (W : World), (∀ x, W.cell? x = (W1.setCells w.heap.size (i * 4) vs).cell? x) → (∀ x, W.frozen? x = (W1.setCells w.heap.size (i * 4) vs).frozen? x) → ∀ ty dc sc, (Builtin.copy_ #[55, 55] ty #[.slice (some ⟨w.heap.size, (i + 1) * 4, none⟩) (n - i) dc, .slice (some ⟨b, i * 4, none⟩) (n - i) sc]).run Try.prog W = .ok (goInt (Nat.min (n - i) (n - i))) (W.setCells w.heap.size ((i + 1) * 4) (cs.drop (i * 4))) := fun W hWc hWf ty dc sc =>
    run_copy_k 4 W 55 55 ty 63 w.heap.size ((i + 1) * 4) (n - i) dc ⟨b, i * 4, none⟩ (n - i) sc (cs.drop (i * 4)) Try.underlying55 hsz (by rw [hdl]; congr 1; simp only [Nat.min_def]; split <;> omega)
      (fun j v hj => by
        rw [Addr.add_mid, hWc, World.cell?_setCells_out _ _ _ _ _ (fun h _ => absurd h hbN)]
        exact hOb _ v (hcc (i * 4 + j) v (by rwa [List.getElem?_drop] at hj)))
      (fun j hj => by rw [hWc]; exact World.isSome_setCells _ _ _ _ _ (hN _ (by rw [hdl] at hj; omega)))
      (fun j hj => by rw [hWf, World.frozen?_setCells]; exact hNf _) (fun v hv => h1c v (List.mem_of_mem_drop hv))
  have hFin : ∃ cur', ((W1.setCells w.heap.size (i * 4) vs).drew.setCells w.heap.size ((i + 1) * 4) (cs.drop (i * 4))).heap[w.heap.size]? = some (.cells cur' 63 (0, 0)) ∧ cur'.size = G * 4 ∧ cur'.toList.take ((n + 1) * 4) = ins cs vs (i * 4) := by
    have hb1 : W1.heap[w.heap.size]? = some (.cells ROW 63 (0, 0)) := by rw [hW1]; exact heap_alloc_new w.drew _
    obtain ⟨c1, h1, l1⟩ := setCells_heap w.heap.size 63 (0, 0) vs (i * 4) W1 ROW hb1 (by rw [hvl]; omega)
    have s1 : c1.size = ROW.size := by rw [← Array.length_toList, l1, over_len (by rw [hvl]; simp <;> omega)]; simp
    obtain ⟨c2, h2, l2⟩ := setCells_heap w.heap.size 63 (0, 0) (cs.drop (i * 4)) ((i + 1) * 4) (W1.setCells w.heap.size (i * 4) vs).drew c1 h1 (by rw [hdl]; omega)
    have s2 : c2.size = c1.size := by rw [← Array.length_toList, l2, over_len (by rw [hdl]; simp <;> omega)]; simp
    refine ⟨c2, h2, by omega, ?_⟩
    rw [l2, l1]
    have e0 : ROW.toList = cs.take (i * 4) ++ ((Builtin.zeroCells (.agg #[.int .i64 0, .int .i64 0, .int .i64 0, .bool false] : Value).cells (n + 1 - i) ++ Builtin.zeroCells (.agg #[.int .i64 0, .int .i64 0, .int .i64 0, .bool false] : Value).cells (G - (n + 1))).toList) := by rw [hROW]; simp
    rw [e0]
    exact over_grow (by rw [List.length_take]; omega) (by rw [hvl] <;> omega) (by rw [hdl]; omega) (by simp only [Array.toList_append, List.length_append, Array.length_toList, size_zeroCells, hvl, hdl]; show (n - i) * 4 + 4 ≤ (n + 1 - i) * 4 + (G - (n + 1)) * 4; omega)
  obtain ⟨cur', hf1, hf2, hf3⟩ := hFin
  have hgr : Below w.heap.size w ((W1.setCells w.heap.size (i * 4) vs).drew.setCells w.heap.size ((i + 1) * 4) (cs.drop (i * 4))) := by
    have h1 : Below w.heap.size w W1 := by rw [hW1]; exact ((Below.refl _ w).drew).alloc (Nat.le_refl _) _
    have h2 := h1.grown (setCells_grown w.heap.size vs (i * 4) W1) h1.size (fun k hk => by cases hk; exact Nat.le_refl _)
    exact (h2.drew).grown (setCells_grown w.heap.size (cs.drop (i * 4)) ((i + 1) * 4) _) h2.size (fun k hk => by cases hk; exact Nat.le_refl _)
  have hil : (ins cs vs (i * 4)).length = (n + 1) * 4 := by simp [ins, hcl, hvl] <;> omega
  have HQ := Lib.hid (And.intro hil (And.intro hf1 (And.intro hf2 (And.intro hf3 (And.intro hgr hGm)))))
  clear hil hf1 hf2 hf3 hgr hdl
  subst hW1
  have hE1 : ∀ x, ((w.alloc (.cells ROW 63)).drew).cell? x = (w.drew.alloc (.cells ROW 63)).cell? x := fun x => rfl
  have hE2 : ∀ x, ((w.alloc (.cells ROW 63)).drew).frozen? x = (w.drew.alloc (.cells ROW 63)).frozen? x := fun x => rfl
  have hF1 : ∀ x, (((w.alloc (.cells ROW 63)).drew.setCells w.heap.size (i * 4) vs).drew).cell? x = ((w.drew.alloc (.cells ROW 63)).setCells w.heap.size (i * 4) vs).cell? x := fun x => rfl
  have hF2 : ∀ x, (((w.alloc (.cells ROW 63)).drew.setCells w.heap.size (i * 4) vs).drew).frozen? x = ((w.drew.alloc (.cells ROW 63)).setCells w.heap.size (i * 4) vs).frozen? x := fun x => rfl
  have hz2 : ¬ ((i : Int) = (n : Int)) := by omega
  have hz3 : (n : Int) < (n : Int) + 1 := by omega
  have hw1 : IntKind.i64.wrap ((i : Int) + 1) = (i : Int) + 1 := by rw [IntKind.wrap_i64]; omega
  have hb1 : (0 : Int) ≤ (i : Int) + 1 := by omega
  have hin : i ≤ n := by omega
  have htn : ((i : Int) + 1).toNat = i + 1 := by omega
  have hb3 : (i : Int) ≤ (n : Int) := by omega
  clear hkk hik hold hG hROW hRs hN hNf hOb hOv hcc hvc hcse hh hvs h1c hcl hcs hGm
  go_enter Try.func25, Try.ntmps25
  go_wp2_with (first
    | (at_builtin; refine Lib.wpList_append_run _ rfl _ _ _ _ rfl _ _ rfl rfl _ _ (hrz _) ?_)
    | (at_builtin; refine wpList_copy_runI _ rfl _ _ 55 55 rfl _ _ rfl rfl (hcpA _ hE1 hE2 _ _) ?_)
    | (at_builtin; refine wpList_copy_runI _ rfl _ _ 55 55 rfl _ _ rfl rfl (hcpB _ (fun _ => rfl) (fun _ => rfl) _ _ _) ?_))
  go_region_law_o (refine step_copy_runI rfl _ _ 55 55 rfl (.slice (some ⟨w.heap.size, (i + 1) * 4, none⟩) (n - i) (G - (i + 1))) (.slice (some ⟨b, i * 4, none⟩) (n - i) (n - i)) (by simp [Act.eval, Act.put]) (by simp [Act.eval, Act.put]) (hcpB _ hF1 hF2 3 (G - (i + 1)) (n - i)) ?_)
  go_wp2
  go_ret
  obtain ⟨q1, q2, q3, q4, q5, q6⟩ := HQ.out
  exact ⟨_, rfl, ⟨q1, .inr ⟨w.heap.size, G, cur', rfl, Nat.zero_le _, q2, hGn, q6, q3, q4⟩⟩, q5, rfl⟩

/-- Insert of one element, wherever. -/
theorem insE_any (v : Value) (n i vb : Nat) (xs vs : List Value) (w : World) (hown : w.ownsRow 0 63 4 v n xs) (hi : i ≤ n) (hn : n ≤ 1000000) (hvl : vs.length = 4)
    (hvs : w.heap[vb]? = some (.cells vs.toArray 63 (0, 0))) (hvb : v.ownBlock ≠ some vb) (h1c : ∀ u ∈ xs, u.oneCell' = true) (h1v : ∀ u ∈ vs, u.oneCell' = true) :
    Calls Try.prog 25 #[v, .int .i64 i, .slice (some ⟨vb, 0, none⟩) 1 1] w fun e w' => ∃ v', e = .returned v' ∧ w'.ownsRow 0 63 4 v' (n + 1) (ins xs vs (i * 4)) ∧ w.grownBy w' v.ownBlock ∧ (v'.ownBlock = v.ownBlock ∨ v'.ownBlock = some w.heap.size) := by
  by_cases he : i = n
  · subst he
    rw [ins_end (by have := hown.1; omega)]
    exact insE_end v i vb xs vs w hown hn hvl hvs h1v
  · have hlt : i < n := by omega
    obtain ⟨b, c, cur, rfl, hh, hnc, hcm, hsz, htk⟩ := own_mid hown (by omega)
    have hbv : vb ≠ b := fun e => hvb (by rw [e]; rfl)
    by_cases hc : n + 1 ≤ c
    · refine (insE_room b n c i vb cur vs w hh hsz hlt hc hn (by unfold maxLen at hcm; omega) hbv hvl hvs (by rw [htk]; exact h1c) h1v).mono ?_
      rintro e w' ⟨rfl, rfl⟩
      rw [htk]
      obtain ⟨c1, g1, l1⟩ := setCells_heap b 63 (0, 0) (xs.drop (i * 4)) ((i + 1) * 4) w.drew cur hh (by rw [List.length_drop, hown.1]; omega)
      have s1 : c1.size = cur.size := by rw [← Array.length_toList, l1, over_len (by rw [List.length_drop, hown.1]; simp <;> omega)]; simp
      obtain ⟨c2, g2, l2⟩ := setCells_heap b 63 (0, 0) vs (i * 4) _ c1 g1 (by rw [hvl]; omega)
      have s2 : c2.size = c1.size := by rw [← Array.length_toList, l2, over_len (by rw [hvl]; simp <;> omega)]; simp
      refine ⟨_, rfl, ⟨by simp [ins, hown.1, hvl] <;> omega, .inr ⟨b, c, c2, rfl, Nat.zero_le _, g2, hc, hcm, by omega, ?_⟩⟩, ?_, .inl rfl⟩
      · rw [l2, l1]
        have := over_ins (cur := cur.toList) (a := i * 4) (b := n * 4) (v := 4) (vs := vs) hvl (by omega) (by simp <;> omega)
        rw [htk] at this
        rw [show ((i + 1) * 4) = i * 4 + 4 by omega, show (n + 1) * 4 = n * 4 + 4 by omega]
        exact this
      · have hd : w.grownBy w.drew (some b) := ⟨rfl, rfl, rfl, Nat.le_refl _, fun _ _ _ => rfl⟩
        exact grown_trans (grown_trans hd (setCells_grown b _ _ _)) (setCells_grown b _ _ _)
    · obtain rfl : c = n := by omega
      have htk' : cur.toList = xs := by rw [← htk, List.take_of_length_le (by simp <;> omega)]
      refine (insE_grow b c i vb cur vs w hh hsz hlt hn hvl hvs (by rw [htk']; exact h1c) h1v).mono ?_
      rintro e w' ⟨v', rfl, ho, hb, hl⟩
      rw [htk'] at ho
      exact ⟨v', rfl, ho, grown_of hb _, .inr hl⟩

theorem infoB : (Try.prog.info? 54).map (fun i => (i.zero, i.size, i.bytes)) = some (some (.pointer none), 1, 8) := by kernel_rfl
theorem sizeB : (Try.prog.info? 54).map (·.size) = some 1 := by kernel_rfl
theorem sliceB_fr {b n c i : Nat} (h : i ≤ n) (hc : c ≠ i) (w : World) :
    (Instr.slice 58 (.slice (some ⟨b, 0, none⟩) n c) (some (.int .i64 (i : Int))) none none).run Try.prog w = .ok (.slice (some ⟨b, i, none⟩) (n - i) (c - i)) w := by
  have h2 : (i : Int) ≤ (n : Int) := by omega
  have h0 : (0 : Int) ≤ (i : Int) := by omega
  go_simp
theorem sliceB_fr0 {A : Option Addr} {n c i : Nat} (h : i ≤ n) (w : World) :
    ∃ x, (Instr.slice 58 (.slice A n c) (some (.int .i64 (i : Int))) none none).run Try.prog w = .ok x w := by
  have h2 : (i : Int) ≤ (n : Int) := by omega
  have h0 : (0 : Int) ≤ (i : Int) := by omega
  refine ⟨.slice (if c = i then A else A.map (·.add (i))) (n - i) (c - i), ?_⟩
  go_simp
theorem sliceB_to {b n c i : Nat} (h : i ≤ c) (w : World) :
    (Instr.slice 58 (.slice (some ⟨b, 0, none⟩) n c) none (some (.int .i64 (i : Int))) none).run Try.prog w = .ok (.slice (some ⟨b, 0, none⟩) i c) w := by
  have h2 : (i : Int) ≤ (c : Int) := by omega
  have h0 : (0 : Int) ≤ (i : Int) := by omega
  go_simp

set_option maxRecDepth 100000 in
set_option maxHeartbeats 1000000 in
theorem insB_end (v : Value) (n vb : Nat) (xs vs : List Value) (w : World) (hown : w.ownsRow 0 54 1 v n xs) (hn : n ≤ 1000000) (hvl : vs.length = 1)
    (hvs : w.heap[vb]? = some (.cells vs.toArray 54 (0, 0))) (h1v : ∀ u ∈ vs, u.oneCell' = true) :
    Calls Try.prog 36 #[v, .int .i64 n, .slice (some ⟨vb, 0, none⟩) 1 1] w fun e w' => ∃ v', e = .returned v' ∧ w'.ownsRow 0 54 1 v' (n + 1) (xs ++ vs) ∧ w.grownBy w' v.ownBlock ∧ (v'.ownBlock = v.ownBlock ∨ v'.ownBlock = some w.heap.size) := by
  obtain ⟨i0, hi, hz0, hz1, hz2⟩ := info_parts infoB
  have H0 := Lib.hid hown
  have hvc : ∀ j u, vs[j]? = some u → w.cell? ((⟨vb, 0, none⟩ : Addr).add j) = some u := fun j u hu => by
    rw [add0, cells_at hvs]; simpa using hu
  have HV := Lib.hid hvc
  clear hvc hvs
  obtain ⟨A, c, rfl, hnc⟩ : ∃ A c, v = .slice A n c ∧ n ≤ c := by
    rcases hown.2 with ⟨rfl, rfl⟩ | ⟨g, cap, cur, rfl, _, _, hc, _⟩
    · exact ⟨none, 0, rfl, Nat.le_refl _⟩
    · exact ⟨_, cap, rfl, hc⟩
  clear hown
  obtain ⟨x0, hx0⟩ := sliceB_fr0 (A := A) (n := n) (c := c) (Nat.le_refl n) w
  go_enter Try.func36, Try.ntmps36
  go_wp2_with (first
    | (at_builtin; refine wpList_append_own_at _ rfl _ _ 58 rfl 0 54 i0 (.pointer none) 1 8 Try.underlying58 hi hz0 hz1 hz2 rfl (by decide) (.slice A n c) n xs rfl H0.out ⟨vb, 0, none⟩ 1 1 vs rfl (by rw [hvl]) HV.out h1v (by unfold maxLen; omega) (by omega) (Nat.zero_le _) ?_; intro v' w1 hown1 hg1 hnil hloc))
  go_ret
  exact ⟨v', rfl, hown1, hg1, hloc⟩

set_option maxRecDepth 100000 in
set_option maxHeartbeats 1000000 in
theorem insB_room (b n c i vb : Nat) (cur : Array Value) (vs : List Value) (w : World) (hh : w.heap[b]? = some (.cells cur 54 (0, 0))) (hcs : cur.size = c * 1) (hi : i < n) (hroom : n + 1 ≤ c) (hn : n ≤ 1000000) (hc63 : c ≤ 9223372036854775807)
    (hvb : vb ≠ b) (hvl : vs.length = 1) (hvs : w.heap[vb]? = some (.cells vs.toArray 54 (0, 0))) (h1c : ∀ u ∈ cur.toList.take (n * 1), u.oneCell' = true) (h1v : ∀ u ∈ vs, u.oneCell' = true) :
    Calls Try.prog 36 #[.slice (some ⟨b, 0, none⟩) n c, .int .i64 i, .slice (some ⟨vb, 0, none⟩) 1 1] w fun e w' =>
      e = .returned (.slice (some ⟨b, 0, none⟩) (n + 1) c) ∧ w' = (w.drew.setCells b (i + 1) ((cur.toList.take (n * 1)).drop (i))).setCells b (i) vs := by
  obtain ⟨cs, hcse⟩ : ∃ cs, cs = cur.toList.take (n * 1) := ⟨_, rfl⟩
  rw [← hcse] at h1c ⊢
  have hcl : cs.length = n * 1 := by rw [hcse, List.length_take]; simp <;> omega
  have hcc : ∀ j v, cs[j]? = some v → w.cell? ⟨b, j, none⟩ = some v := fun j v hj => by
    rw [cells_at hh]
    rw [hcse, List.getElem?_take] at hj
    split at hj
    · simpa using hj
    · cases hj
  have hvc : ∀ j u, vs[j]? = some u → w.cell? ⟨vb, j, none⟩ = some u := fun j u hu => by
    rw [cells_at hvs]; simpa using hu
  have hsp : ∀ j, j < c * 1 → (w.cell? ⟨b, j, none⟩).isSome = true := fun j hj => by
    rw [cells_at hh, Array.getElem?_eq_getElem (by omega)]; rfl
  have hfz : ∀ j, w.frozen? ⟨b, j, none⟩ = false := fun j => frozen_at hh j
  have hsz := sizeB
  have mixed := mixed_orders
  have hov : ∀ lb cb, (callFunc 41 #[.slice (some ⟨vb, 0, none⟩) 1 1, .slice (some ⟨b, i + 1, none⟩) lb cb]).run Try.prog w = .ok (.value (.bool false)) w := fun lb cb => by
    rw [run_callFunc_extern Try.func41 (by kernel_rfl) (by kernel_rfl) (by kernel_rfl) (e := Extern.SlicesOverlaps.overlaps #[58, 58] #[4]) (by kernel_rfl),
      Lib.run_overlaps_apart w 58 4 54 Try.underlying58 1 (fun w => by kernel_rfl) ⟨vb, 0, none⟩ ⟨b, i + 1, none⟩ 1 1 lb cb hvb _ _ _ _ (shape_at hvs) (shape_at hh) (by omega) (frozen_at hvs 0) (frozen_at hvs _)]
    rfl
  have hdl : (cs.drop (i)).length = (n - i) * 1 := by rw [List.length_drop, hcl]; omega
  have hcp1 : ∀ ty dc sc, (Builtin.copy_ #[58, 58] ty #[.slice (some ⟨b, i + 1, none⟩) (n - i) dc, .slice (some ⟨b, i, none⟩) (n + 1 - i) sc]).run Try.prog w.drew = .ok (goInt (Nat.min (n + 1 - i) (n - i))) (w.drew.setCells b (i + 1) (cs.drop (i))) := fun ty dc sc =>
    run_copy_k 1 w.drew 58 58 ty 54 b (i + 1) (n - i) dc ⟨b, i, none⟩ (n + 1 - i) sc (cs.drop (i)) Try.underlying58 hsz (by rw [hdl]; congr 1; simp only [Nat.min_def]; split <;> omega)
      (fun j v hj => by rw [Addr.add_mid]; exact hcc (i + j) v (by rwa [List.getElem?_drop] at hj))
      (fun j hj => hsp _ (by rw [hdl] at hj; omega)) (fun j hj => hfz _) (fun v hv => h1c v (List.mem_of_mem_drop hv))
  obtain ⟨W1, hW1⟩ : ∃ W1, W1 = w.drew.setCells b (i + 1) (cs.drop (i)) := ⟨_, rfl⟩
  have hsp1 : ∀ k, k < c * 1 → (W1.cell? ⟨b, k, none⟩).isSome = true := fun k hk => by
    rw [hW1]
    exact World.isSome_setCells b _ _ _ _ (hsp k hk)
  have hcp2 : ∀ (W : World), (∀ x, W.cell? x = W1.cell? x) → (∀ x, W.frozen? x = W1.frozen? x) → ∀ ty dc, (Builtin.copy_ #[58, 58] ty #[.slice (some ⟨b, i, none⟩) (n + 1 - i) dc, .slice (some ⟨vb, 0, none⟩) 1 1]).run Try.prog W = .ok (goInt (Nat.min 1 (n + 1 - i))) (W.setCells b (i) vs) := fun W hWc hWf ty dc =>
    run_copy_k 1 W 58 58 ty 54 b (i) (n + 1 - i) dc ⟨vb, 0, none⟩ 1 1 vs Try.underlying58 hsz (by rw [hvl]; simp only [Nat.min_def]; split <;> omega)
      (fun j v hj => by
        rw [add0, hWc, hW1, World.cell?_setCells_out b _ _ _ _ (fun h _ => absurd h hvb)]
        exact hvc j v hj)
      (fun j hj => by rw [hWc]; exact hsp1 _ (by rw [hvl] at hj; omega)) (fun j hj => by rw [hWf, hW1, World.frozen?_setCells]; exact hfz _) h1v
  rw [← hW1] at hcp1
  rw [← hW1]
  have hz2 : ¬ ((i : Int) = (n : Int)) := by omega
  have hw1 : IntKind.i64.wrap ((i : Int) + 1) = (i : Int) + 1 := by rw [IntKind.wrap_i64]; omega
  have hb1 : (0 : Int) ≤ (i : Int) + 1 := by omega
  have hin : i ≤ n := by omega
  have htn : ((i : Int) + 1).toNat = i + 1 := by omega
  have hb2 : ¬ (c = i + 1) := by omega
  have hb3 : (i : Int) ≤ (n : Int) + 1 := by omega
  have hb4 : ¬ (c = i) := by omega
  clear hsp hfz hsp1 hcc hvc hcse hh hvs hdl h1c hcl hcs
  go_enter Try.func36, Try.ntmps36
  go_wp2_with (simp only [hov])
  go_region_law_o (refine step_copy_runI rfl _ _ 58 58 rfl _ _ (by simp [Act.eval, Act.put]) (by simp [Act.eval, Act.put]) (hcp1 _ _ _) ?_)
  go_wp2_with (at_builtin; refine wpList_copy_runI _ rfl _ _ 58 58 rfl _ _ rfl rfl (hcp2 _ (fun _ => rfl) (fun _ => rfl) _ _) ?_)
  go_ret
  exact ⟨rfl, by rw [hW1]⟩

set_option maxRecDepth 100000 in
set_option maxHeartbeats 1000000 in
theorem insB_grow (b n i vb : Nat) (cur : Array Value) (vs : List Value) (w : World) (hh : w.heap[b]? = some (.cells cur 54 (0, 0))) (hcs : cur.size = n * 1) (hi : i < n) (hn : n ≤ 1000000)
    (hvl : vs.length = 1) (hvs : w.heap[vb]? = some (.cells vs.toArray 54 (0, 0))) (h1c : ∀ u ∈ cur.toList, u.oneCell' = true) (h1v : ∀ u ∈ vs, u.oneCell' = true) :
    Calls Try.prog 36 #[.slice (some ⟨b, 0, none⟩) n n, .int .i64 i, .slice (some ⟨vb, 0, none⟩) 1 1] w fun e w' => ∃ v', e = .returned v' ∧ w'.ownsRow 0 54 1 v' (n + 1) (ins cur.toList vs (i)) ∧ Below w.heap.size w w' ∧ v'.ownBlock = some w.heap.size := by
  obtain ⟨i0, hi0, hz0, hzs, hzb⟩ := info_parts infoB
  obtain ⟨cs, hcse⟩ : ∃ cs, cs = cur.toList := ⟨_, rfl⟩
  rw [← hcse] at h1c ⊢
  have hcl : cs.length = n * 1 := by rw [hcse]; simp <;> omega
  have hcc : ∀ j v, cs[j]? = some v → w.cell? ⟨b, j, none⟩ = some v := fun j v hj => by
    rw [cells_at hh]
    rw [hcse] at hj
    simpa using hj
  have hvc : ∀ j u, vs[j]? = some u → w.cell? ⟨vb, j, none⟩ = some u := fun j u hu => by
    rw [cells_at hvs]; simpa using hu
  have hsz := sizeB
  have mixed := mixed_orders
  have hbw : b < w.heap.size := (Array.getElem?_eq_some_iff.1 hh).1
  have hvw : vb < w.heap.size := (Array.getElem?_eq_some_iff.1 hvs).1
  have hik : i + (n + 1 - i) = n + 1 := by omega
  have hkk : (n : Int) + 1 - (i : Int) = ((n + 1 - i : Nat) : Int) := by omega
  have hold : (Builtin.firstCells i0.size i (.slice (some ⟨b, 0, none⟩) i n)).run Try.prog w.drew = .ok (cs.take (i)).toArray w.drew := by
    rw [hzs]
    exact run_firstCells_some w.drew 1 i ⟨b, 0, none⟩ i n (cs.take (i)) (by rw [List.length_take]; omega) (fun j v hj => by
      rw [add0]
      rw [List.getElem?_take] at hj
      split at hj
      · exact hcc j v hj
      · cases hj)
  obtain ⟨G, hG⟩ : ∃ G, G = grownCap w (n + 1) n 54 := ⟨_, rfl⟩
  obtain ⟨ROW, hROW⟩ : ∃ ROW : Array Value, ROW = (cs.take (i)).toArray ++ Builtin.zeroCells (.pointer none : Value).cells (n + 1 - i) ++ Builtin.zeroCells (.pointer none : Value).cells (G - (n + 1)) := ⟨_, rfl⟩
  have hrz : ∀ ty, (Builtin.append_ #[58, 3] ty #[.slice (some ⟨b, 0, none⟩) i n, .int .i64 ((n : Int) + 1 - (i : Int))]).run Try.prog w =
      .ok (.slice (some ⟨w.heap.size, 0, none⟩) (n + 1) G) (w.drew.alloc (.cells ROW 54)) := fun ty => by
    have h := Lib.run_append_grow_zeros w 58 3 ty 54 i0 _ .i64 .i64 Try.underlying58 Try.underlying3 hi0 hz0 (some ⟨b, 0, none⟩) i n (cs.take (i)) hold (n + 1 - i) (by omega) (by omega) (by omega) (by omega) (by rw [hzb]; omega) (by rw [hzb, hik]; exact growslice_fits (by omega) (by omega))
    rw [hik, ← hG, ← hROW] at h
    rw [hkk]
    exact h
  have hGn : n + 1 ≤ G := by rw [hG]; exact grownCap_ge w _ _ _
  have hGm : G ≤ maxLen := by rw [hG]; exact grownCap_le_maxLen w (n + 1) n 54 (by unfold maxLen; omega)
  have hG63 : G ≤ 9223372036854775807 := by have := hGm; unfold maxLen at this; omega
  have hRs : ROW.size = G * 1 := by
    rw [hROW]
    simp only [Array.size_append, List.size_toArray, size_zeroCells, List.length_take, hcl]
    show min (i) (n * 1) + (n + 1 - i) * 1 + (G - (n + 1)) * 1 = _
    omega
  obtain ⟨W1, hW1⟩ : ∃ W1, W1 = w.drew.alloc (.cells ROW 54) := ⟨_, rfl⟩
  rw [← hW1] at hrz
  have hN : ∀ j, j < G * 1 → (W1.cell? ⟨w.heap.size, j, none⟩).isSome = true := fun j hj => by
    rw [hW1, World.cell?_alloc_at (w := w.drew) ROW _ w.heap.size j rfl, Array.getElem?_eq_getElem (by omega)]; rfl
  have hNf : ∀ j, W1.frozen? ⟨w.heap.size, j, none⟩ = false := fun j => by rw [hW1]; exact World.frozen?_alloc_at (w := w.drew) ROW _ w.heap.size j rfl
  have hOb : ∀ j v, w.cell? ⟨b, j, none⟩ = some v → W1.cell? ⟨b, j, none⟩ = some v := fun j v h => by rw [hW1, World.cell?_alloc_past (w := w.drew) _ b j hbw]; exact h
  have hOv : ∀ j v, w.cell? ⟨vb, j, none⟩ = some v → W1.cell? ⟨vb, j, none⟩ = some v := fun j v h => by rw [hW1, World.cell?_alloc_past (w := w.drew) _ vb j hvw]; exact h
  have hcpA : ∀ (W : World), (∀ x, W.cell? x = W1.cell? x) → (∀ x, W.frozen? x = W1.frozen? x) → ∀ ty dc, (Builtin.copy_ #[58, 58] ty #[.slice (some ⟨w.heap.size, i, none⟩) (n + 1 - i) dc, .slice (some ⟨vb, 0, none⟩) 1 1]).run Try.prog W = .ok (goInt (Nat.min 1 (n + 1 - i))) (W.setCells w.heap.size (i) vs) := fun W hWc hWf ty dc =>
    run_copy_k 1 W 58 58 ty 54 w.heap.size (i) (n + 1 - i) dc ⟨vb, 0, none⟩ 1 1 vs Try.underlying58 hsz (by rw [hvl]; simp only [Nat.min_def]; split <;> omega)
      (fun j v hj => by rw [add0, hWc]; exact hOv _ v (hvc j v hj))
      (fun j hj => by rw [hWc]; exact hN _ (by rw [hvl] at hj; omega)) (fun j hj => by rw [hWf]; exact hNf _) h1v
  have hGi : ¬ (G = i) := by omega
  have hGim : ¬ (G = i + 1) := by omega
  have hci : ¬ (n = i) := by omega
  have hbN : b ≠ w.heap.size := by omega
  have hdl : (cs.drop (i)).length = (n - i) * 1 := by rw [List.length_drop, hcl]; omega
  have hcpB : ∀ (W : World), (∀ x, W.cell? x = (W1.setCells w.heap.size (i) vs).cell? x) → (∀ x, W.frozen? x = (W1.setCells w.heap.size (i) vs).frozen? x) → ∀ ty dc sc, (Builtin.copy_ #[58, 58] ty #[.slice (some ⟨w.heap.size, i + 1, none⟩) (n - i) dc, .slice (some ⟨b, i, none⟩) (n - i) sc]).run Try.prog W = .ok (goInt (Nat.min (n - i) (n - i))) (W.setCells w.heap.size (i + 1) (cs.drop (i))) := fun W hWc hWf ty dc sc =>
    run_copy_k 1 W 58 58 ty 54 w.heap.size (i + 1) (n - i) dc ⟨b, i, none⟩ (n - i) sc (cs.drop (i)) Try.underlying58 hsz (by rw [hdl]; congr 1; simp only [Nat.min_def]; split <;> omega)
      (fun j v hj => by
        rw [Addr.add_mid, hWc, World.cell?_setCells_out _ _ _ _ _ (fun h _ => absurd h hbN)]
        exact hOb _ v (hcc (i + j) v (by rwa [List.getElem?_drop] at hj)))
      (fun j hj => by rw [hWc]; exact World.isSome_setCells _ _ _ _ _ (hN _ (by rw [hdl] at hj; omega)))
      (fun j hj => by rw [hWf, World.frozen?_setCells]; exact hNf _) (fun v hv => h1c v (List.mem_of_mem_drop hv))
  have hFin : ∃ cur', ((W1.setCells w.heap.size (i) vs).drew.setCells w.heap.size (i + 1) (cs.drop (i))).heap[w.heap.size]? = some (.cells cur' 54 (0, 0)) ∧ cur'.size = G * 1 ∧ cur'.toList.take ((n + 1) * 1) = ins cs vs (i) := by
    have hb1 : W1.heap[w.heap.size]? = some (.cells ROW 54 (0, 0)) := by rw [hW1]; exact heap_alloc_new w.drew _
    obtain ⟨c1, h1, l1⟩ := setCells_heap w.heap.size 54 (0, 0) vs (i) W1 ROW hb1 (by rw [hvl]; omega)
    have s1 : c1.size = ROW.size := by rw [← Array.length_toList, l1, over_len (by rw [hvl]; simp <;> omega)]; simp
    obtain ⟨c2, h2, l2⟩ := setCells_heap w.heap.size 54 (0, 0) (cs.drop (i)) (i + 1) (W1.setCells w.heap.size (i) vs).drew c1 h1 (by rw [hdl]; omega)
    have s2 : c2.size = c1.size := by rw [← Array.length_toList, l2, over_len (by rw [hdl]; simp <;> omega)]; simp
    refine ⟨c2, h2, by omega, ?_⟩
    rw [l2, l1]
    have e0 : ROW.toList = cs.take (i) ++ ((Builtin.zeroCells (.pointer none : Value).cells (n + 1 - i) ++ Builtin.zeroCells (.pointer none : Value).cells (G - (n + 1))).toList) := by rw [hROW]; simp
    rw [e0]
    exact over_grow (by rw [List.length_take]; omega) (by rw [hvl] <;> omega) (by rw [hdl]; omega) (by simp only [Array.toList_append, List.length_append, Array.length_toList, size_zeroCells, hvl, hdl]; show (n - i) * 1 + 1 ≤ (n + 1 - i) * 1 + (G - (n + 1)) * 1; omega)
  obtain ⟨cur', hf1, hf2, hf3⟩ := hFin
  have hgr : Below w.heap.size w ((W1.setCells w.heap.size (i) vs).drew.setCells w.heap.size (i + 1) (cs.drop (i))) := by
    have h1 : Below w.heap.size w W1 := by rw [hW1]; exact ((Below.refl _ w).drew).alloc (Nat.le_refl _) _
    have h2 := h1.grown (setCells_grown w.heap.size vs (i) W1) h1.size (fun k hk => by cases hk; exact Nat.le_refl _)
    exact (h2.drew).grown (setCells_grown w.heap.size (cs.drop (i)) (i + 1) _) h2.size (fun k hk => by cases hk; exact Nat.le_refl _)
  have hil : (ins cs vs (i)).length = (n + 1) * 1 := by simp [ins, hcl, hvl] <;> omega
  have HQ := Lib.hid (And.intro hil (And.intro hf1 (And.intro hf2 (And.intro hf3 (And.intro hgr hGm)))))
  clear hil hf1 hf2 hf3 hgr hdl
  subst hW1
  have hE1 : ∀ x, ((w.alloc (.cells ROW 54)).drew).cell? x = (w.drew.alloc (.cells ROW 54)).cell? x := fun x => rfl
  have hE2 : ∀ x, ((w.alloc (.cells ROW 54)).drew).frozen? x = (w.drew.alloc (.cells ROW 54)).frozen? x := fun x => rfl
  have hF1 : ∀ x, (((w.alloc (.cells ROW 54)).drew.setCells w.heap.size (i) vs).drew).cell? x = ((w.drew.alloc (.cells ROW 54)).setCells w.heap.size (i) vs).cell? x := fun x => rfl
  have hF2 : ∀ x, (((w.alloc (.cells ROW 54)).drew.setCells w.heap.size (i) vs).drew).frozen? x = ((w.drew.alloc (.cells ROW 54)).setCells w.heap.size (i) vs).frozen? x := fun x => rfl
  have hz2 : ¬ ((i : Int) = (n : Int)) := by omega
  have hz3 : (n : Int) < (n : Int) + 1 := by omega
  have hw1 : IntKind.i64.wrap ((i : Int) + 1) = (i : Int) + 1 := by rw [IntKind.wrap_i64]; omega
  have hb1 : (0 : Int) ≤ (i : Int) + 1 := by omega
  have hin : i ≤ n := by omega
  have htn : ((i : Int) + 1).toNat = i + 1 := by omega
  have hb3 : (i : Int) ≤ (n : Int) := by omega
  clear hkk hik hold hG hROW hRs hN hNf hOb hOv hcc hvc hcse hh hvs h1c hcl hcs hGm
  go_enter Try.func36, Try.ntmps36
  go_wp2_with (first
    | (at_builtin; refine Lib.wpList_append_run _ rfl _ _ _ _ rfl _ _ rfl rfl _ _ (hrz _) ?_)
    | (at_builtin; refine wpList_copy_runI _ rfl _ _ 58 58 rfl _ _ rfl rfl (hcpA _ hE1 hE2 _ _) ?_)
    | (at_builtin; refine wpList_copy_runI _ rfl _ _ 58 58 rfl _ _ rfl rfl (hcpB _ (fun _ => rfl) (fun _ => rfl) _ _ _) ?_))
  go_region_law_o (refine step_copy_runI rfl _ _ 58 58 rfl (.slice (some ⟨w.heap.size, i + 1, none⟩) (n - i) (G - (i + 1))) (.slice (some ⟨b, i, none⟩) (n - i) (n - i)) (by simp [Act.eval, Act.put]) (by simp [Act.eval, Act.put]) (hcpB _ hF1 hF2 3 (G - (i + 1)) (n - i)) ?_)
  go_wp2
  go_ret
  obtain ⟨q1, q2, q3, q4, q5, q6⟩ := HQ.out
  exact ⟨_, rfl, ⟨q1, .inr ⟨w.heap.size, G, cur', rfl, Nat.zero_le _, q2, hGn, q6, q3, q4⟩⟩, q5, rfl⟩

/-- Insert of one element, wherever. -/
theorem insB_any (v : Value) (n i vb : Nat) (xs vs : List Value) (w : World) (hown : w.ownsRow 0 54 1 v n xs) (hi : i ≤ n) (hn : n ≤ 1000000) (hvl : vs.length = 1)
    (hvs : w.heap[vb]? = some (.cells vs.toArray 54 (0, 0))) (hvb : v.ownBlock ≠ some vb) (h1c : ∀ u ∈ xs, u.oneCell' = true) (h1v : ∀ u ∈ vs, u.oneCell' = true) :
    Calls Try.prog 36 #[v, .int .i64 i, .slice (some ⟨vb, 0, none⟩) 1 1] w fun e w' => ∃ v', e = .returned v' ∧ w'.ownsRow 0 54 1 v' (n + 1) (ins xs vs (i)) ∧ w.grownBy w' v.ownBlock ∧ (v'.ownBlock = v.ownBlock ∨ v'.ownBlock = some w.heap.size) := by
  by_cases he : i = n
  · subst he
    rw [ins_end (by have := hown.1; omega)]
    exact insB_end v i vb xs vs w hown hn hvl hvs h1v
  · have hlt : i < n := by omega
    obtain ⟨b, c, cur, rfl, hh, hnc, hcm, hsz, htk⟩ := own_mid hown (by omega)
    have hbv : vb ≠ b := fun e => hvb (by rw [e]; rfl)
    by_cases hc : n + 1 ≤ c
    · refine (insB_room b n c i vb cur vs w hh hsz hlt hc hn (by unfold maxLen at hcm; omega) hbv hvl hvs (by rw [htk]; exact h1c) h1v).mono ?_
      rintro e w' ⟨rfl, rfl⟩
      rw [htk]
      obtain ⟨c1, g1, l1⟩ := setCells_heap b 54 (0, 0) (xs.drop (i)) (i + 1) w.drew cur hh (by rw [List.length_drop, hown.1]; omega)
      have s1 : c1.size = cur.size := by rw [← Array.length_toList, l1, over_len (by rw [List.length_drop, hown.1]; simp <;> omega)]; simp
      obtain ⟨c2, g2, l2⟩ := setCells_heap b 54 (0, 0) vs (i) _ c1 g1 (by rw [hvl]; omega)
      have s2 : c2.size = c1.size := by rw [← Array.length_toList, l2, over_len (by rw [hvl]; simp <;> omega)]; simp
      refine ⟨_, rfl, ⟨by simp [ins, hown.1, hvl] <;> omega, .inr ⟨b, c, c2, rfl, Nat.zero_le _, g2, hc, hcm, by omega, ?_⟩⟩, ?_, .inl rfl⟩
      · rw [l2, l1]
        have := over_ins (cur := cur.toList) (a := i) (b := n * 1) (v := 1) (vs := vs) hvl (by omega) (by simp <;> omega)
        rw [htk] at this
        rw [show (i + 1) = i + 1 by omega, show (n + 1) * 1 = n * 1 + 1 by omega]
        exact this
      · have hd : w.grownBy w.drew (some b) := ⟨rfl, rfl, rfl, Nat.le_refl _, fun _ _ _ => rfl⟩
        exact grown_trans (grown_trans hd (setCells_grown b _ _ _)) (setCells_grown b _ _ _)
    · obtain rfl : c = n := by omega
      have htk' : cur.toList = xs := by rw [← htk, List.take_of_length_le (by simp <;> omega)]
      refine (insB_grow b c i vb cur vs w hh hsz hlt hn hvl hvs (by rw [htk']; exact h1c) h1v).mono ?_
      rintro e w' ⟨v', rfl, ho, hb, hl⟩
      rw [htk'] at ho
      exact ⟨v', rfl, ho, grown_of hb _, .inr hl⟩

end Go.Proofs.Ytnbgnjpjdplocaa.Q10
