/-
  Layer 10, the document's shelf: Put.
-/
import Derived.Test.YtnbgnjpjdplocaaR10c
import Derived.Deep.AppendSrc
namespace Go.Proofs.Ytnbgnjpjdplocaa.Q10
open Go.RowKit Go.PlainAid
set_option linter.unusedVariables false
set_option linter.unusedSimpArgs false

/-- A slice that is appended: nil, or somewhere. -/
def Src (W : World) (X : Option Addr) (m c size : Nat) (news : List Value) : Prop :=
  (X = none ∧ m = 0 ∧ c = 0 ∧ news = []) ∨ ∃ ad, X = some ad ∧ ad.block < W.heap.size ∧ news.length = m * size ∧ ∀ j u, news[j]? = some u → W.cell? (ad.add j) = some u
theorem add_block (ad : Addr) (j : Nat) : (ad.add j).block = ad.block := by unfold Addr.add; split <;> rfl
theorem Src.keep {W W' : World} {X : Option Addr} {m c size : Nat} {news : List Value} {B : Nat} (h : Src W X m c size news) (hb : Below B W W') (hB : W.heap.size ≤ B) : Src W' X m c size news := by
  rcases h with h | ⟨ad, h1, h2, h3, h4⟩
  · exact .inl h
  · exact .inr ⟨ad, h1, Nat.lt_of_lt_of_le h2 hb.size, h3, fun j u hu => (hb.cell (p := ad.add j) (by rw [add_block]; omega)).trans (h4 j u hu)⟩

theorem wpList_append_src {P : Program} {w : World} {ops : Array Oper} {rest : List Oper} {o : Oper} {a : Act} {Q : Exit → Act → World → Prop} (hgd : o.guard = none) (s x : Operand) (t : TypeId)
    (ho : o.op = .call { callee := .builtin .append, args := #[s, x], argTypes := #[t, t] })
    (base : Nat) (e : TypeId) (i : TypeInfo) (z : Value) (size bytes : Nat) (ht : P.underlying t = some (.slice e)) (hi : P.info? e = some i) (hz : i.zero = some z)
    (hsize : i.size = size) (hby : i.bytes = bytes) (hzs : z.cells.size = size) (hsz : 0 < size)
    (v : Value) (n : Nat) (xs : List Value) (hs : a.eval s = v) (hown : w.ownsRow base e size v n xs)
    (X : Option Addr) (m c : Nat) (news : List Value) (hx : a.eval x = .slice X m c) (hsrc : Src w X m c size news) (h1 : ∀ u ∈ news, u.oneCell' = true)
    (h63 : n + m ≤ maxLen) (hbytes : (n + m) * bytes ≤ 140737488355328) (hbase : base ≤ w.heap.size)
    (h : ∀ v' w', w'.ownsRow base e size v' (n + m) (xs ++ news) → w.grownBy w' v.ownBlock → (v'.ownBlock = v.ownBlock ∨ v'.ownBlock = some w.heap.size) → wpList P ops Q rest (a.put o.dst v') w') :
    wpList P ops Q (o :: rest) a w := by
  rcases hsrc with ⟨rfl, rfl, rfl, rfl⟩ | ⟨ad, rfl, hb, hl, hc⟩
  · refine wpList_plain hgd fun K hK => ?_
    have hr := run_append_owned_none (P := P) w base t o.type e i size ht hi v n xs hown
    unfold Oper.wp execOp
    simp only [ho, resolve, invoke, builtin, Sem.run_bind, Sem.run_pure, Result.andThen_ok, List.map_toArray, List.map_cons, List.map_nil, hs, hx, hr]
    exact hK _ _ (h v w (by simpa using hown) ⟨rfl, rfl, rfl, Nat.le_refl _, fun _ _ _ => rfl⟩ (.inl rfl))
  · exact wpList_append_own_at _ hgd s x t ho base e i z size bytes ht hi hz hsize hby hzs hsz v n xs hs hown ad m c news hx hl hc h1 h63 hbytes hbase (fun v' w' g1 g2 _ g4 => h v' w' g1 g2 g4)

theorem own_src {w : World} {e size n : Nat} {A : Option Addr} {c : Nat} {xs : List Value} (h : w.ownsRow 0 e size (.slice A n c) n xs) (hnil : n = 0 → A = none ∧ c = 0) : (A = none ∧ n = 0 ∧ c = 0 ∧ xs = []) ∨ ∃ g, A = some ⟨g, 0, none⟩ ∧ g < w.heap.size ∧ 0 < n ∧ n ≤ c ∧ (∀ j u, xs[j]? = some u → w.cell? ⟨g, j, none⟩ = some u) := by
  by_cases h0 : n = 0
  · obtain ⟨rfl, rfl⟩ := hnil h0
    subst h0
    exact .inl ⟨rfl, rfl, rfl, List.eq_nil_of_length_eq_zero (by have := h.1; omega)⟩
  · obtain ⟨g, cap, cur, hv, hh, hnc, _⟩ := own_mid h (by omega)
    injection hv with hv1 _ hv3
    subst hv1 hv3
    exact .inr ⟨g, rfl, heap_lt hh, by omega, hnc, fun j u hu => by have := h.cells (g := g) rfl j u hu; rwa [add0] at this⟩

theorem ids_to {w : World} {A : Option Addr} {n c k : Nat} {l : List Nm} (h : (A = none ∧ n = 0 ∧ c = 0 ∧ nms l = []) ∨ ∃ g, A = some ⟨g, 0, none⟩ ∧ g < w.heap.size ∧ 0 < n ∧ n ≤ c ∧ (∀ j u, (nms l)[j]? = some u → w.cell? ⟨g, j, none⟩ = some u)) (hl : l.length = n) (hk : k ≤ n) :
    ∃ X cx, (∀ W : World, (Instr.slice 27 (.slice A n c) none (some (.int .i64 (k : Int))) none).run Try.prog W = .ok (.slice X k cx) W) ∧ Src w X k cx 3 (nms (l.take k)) := by
  rcases h with ⟨rfl, rfl, rfl, h0⟩ | ⟨g, rfl, hg, hn, hc, hcl⟩
  · obtain rfl : k = 0 := by omega
    exact ⟨none, 0, fun W => by go_simp, .inl ⟨rfl, rfl, rfl, by simp [nms]⟩⟩
  · have h2 : (k : Int) ≤ (c : Int) := by omega
    have h3 : (0 : Int) ≤ (k : Int) := by omega
    refine ⟨some ⟨g, 0, none⟩, c, fun W => by go_simp, .inr ⟨_, rfl, hg, by rw [nms_len, List.length_take]; omega, fun j u hu => ?_⟩⟩
    rw [add0]
    refine hcl j u ?_
    have e : nms l = nms (l.take k) ++ nms (l.drop k) := by rw [nms, nms, nms, ← List.flatMap_append, List.take_append_drop]
    rw [e, List.getElem?_append_left (List.getElem?_eq_some_iff.1 hu).1]
    exact hu
theorem ids_fr {w : World} {A : Option Addr} {n c k : Nat} {l : List Nm} (h : (A = none ∧ n = 0 ∧ c = 0 ∧ nms l = []) ∨ ∃ g, A = some ⟨g, 0, none⟩ ∧ g < w.heap.size ∧ 0 < n ∧ n ≤ c ∧ (∀ j u, (nms l)[j]? = some u → w.cell? ⟨g, j, none⟩ = some u)) (hl : l.length = n) (hk : k ≤ n) :
    ∃ X cx, (∀ W : World, (Instr.slice 27 (.slice A n c) (some (.int .i64 (k : Int))) none none).run Try.prog W = .ok (.slice X (n - k) cx) W) ∧ Src w X (n - k) cx 3 (nms (l.drop k)) := by
  rcases h with ⟨rfl, rfl, rfl, h0⟩ | ⟨g, rfl, hg, hn, hc, hcl⟩
  · obtain rfl : k = 0 := by omega
    obtain rfl := List.eq_nil_of_length_eq_zero hl
    exact ⟨none, 0, fun W => by go_simp, .inl ⟨rfl, rfl, rfl, by simp [nms]⟩⟩
  · have h2 : (k : Int) ≤ (n : Int) := by omega
    have h3 : (0 : Int) ≤ (k : Int) := by omega
    by_cases hck : c = k
    · obtain rfl : k = n := by omega
      refine ⟨some ⟨g, 0, none⟩, c - k, fun W => by go_simp, .inr ⟨_, rfl, hg, by rw [nms_len, List.length_drop]; omega, fun j u hu => ?_⟩⟩
      rw [List.drop_of_length_le (by omega)] at hu
      simp [nms] at hu
    · refine ⟨some ⟨g, k * 3, none⟩, c - k, fun W => by go_simp, .inr ⟨_, rfl, hg, by rw [nms_len, List.length_drop]; omega, fun j u hu => ?_⟩⟩
      rw [Addr.add_mid]
      refine hcl _ u ?_
      have e : nms l = nms (l.take k) ++ nms (l.drop k) := by rw [nms, nms, nms, ← List.flatMap_append, List.take_append_drop]
      have e2 : (nms (l.take k)).length = k * 3 := by rw [nms_len, List.length_take]; omega
      rw [e, List.getElem?_append_right (by omega), e2, Nat.add_sub_cancel_left]
      exact hu
theorem bls_to {w : World} {A : Option Addr} {n c k : Nat} {l : List Bool} (h : (A = none ∧ n = 0 ∧ c = 0 ∧ bls l = []) ∨ ∃ g, A = some ⟨g, 0, none⟩ ∧ g < w.heap.size ∧ 0 < n ∧ n ≤ c ∧ (∀ j u, (bls l)[j]? = some u → w.cell? ⟨g, j, none⟩ = some u)) (hl : l.length = n) (hk : k ≤ n) :
    ∃ X cx, (∀ W : World, (Instr.slice 28 (.slice A n c) none (some (.int .i64 (k : Int))) none).run Try.prog W = .ok (.slice X k cx) W) ∧ Src w X k cx 1 (bls (l.take k)) := by
  rcases h with ⟨rfl, rfl, rfl, h0⟩ | ⟨g, rfl, hg, hn, hc, hcl⟩
  · obtain rfl : k = 0 := by omega
    exact ⟨none, 0, fun W => by go_simp, .inl ⟨rfl, rfl, rfl, by simp [bls]⟩⟩
  · have h2 : (k : Int) ≤ (c : Int) := by omega
    have h3 : (0 : Int) ≤ (k : Int) := by omega
    refine ⟨some ⟨g, 0, none⟩, c, fun W => by go_simp, .inr ⟨_, rfl, hg, by rw [bls_len, List.length_take]; omega, fun j u hu => ?_⟩⟩
    rw [add0]
    refine hcl j u ?_
    have e : bls l = bls (l.take k) ++ bls (l.drop k) := by rw [bls, bls, bls, ← List.map_append, List.take_append_drop]
    rw [e, List.getElem?_append_left (List.getElem?_eq_some_iff.1 hu).1]
    exact hu
theorem bls_fr {w : World} {A : Option Addr} {n c k : Nat} {l : List Bool} (h : (A = none ∧ n = 0 ∧ c = 0 ∧ bls l = []) ∨ ∃ g, A = some ⟨g, 0, none⟩ ∧ g < w.heap.size ∧ 0 < n ∧ n ≤ c ∧ (∀ j u, (bls l)[j]? = some u → w.cell? ⟨g, j, none⟩ = some u)) (hl : l.length = n) (hk : k ≤ n) :
    ∃ X cx, (∀ W : World, (Instr.slice 28 (.slice A n c) (some (.int .i64 (k : Int))) none none).run Try.prog W = .ok (.slice X (n - k) cx) W) ∧ Src w X (n - k) cx 1 (bls (l.drop k)) := by
  rcases h with ⟨rfl, rfl, rfl, h0⟩ | ⟨g, rfl, hg, hn, hc, hcl⟩
  · obtain rfl : k = 0 := by omega
    obtain rfl := List.eq_nil_of_length_eq_zero hl
    exact ⟨none, 0, fun W => by go_simp, .inl ⟨rfl, rfl, rfl, by simp [bls]⟩⟩
  · have h2 : (k : Int) ≤ (n : Int) := by omega
    have h3 : (0 : Int) ≤ (k : Int) := by omega
    by_cases hck : c = k
    · obtain rfl : k = n := by omega
      refine ⟨some ⟨g, 0, none⟩, c - k, fun W => by go_simp, .inr ⟨_, rfl, hg, by rw [bls_len, List.length_drop]; omega, fun j u hu => ?_⟩⟩
      rw [List.drop_of_length_le (by omega)] at hu
      simp [bls] at hu
    · refine ⟨some ⟨g, k, none⟩, c - k, fun W => by go_simp, .inr ⟨_, rfl, hg, by rw [bls_len, List.length_drop]; omega, fun j u hu => ?_⟩⟩
      rw [Addr.add_mid]
      refine hcl _ u ?_
      have e : bls l = bls (l.take k) ++ bls (l.drop k) := by rw [bls, bls, bls, ← List.map_append, List.take_append_drop]
      have e2 : (bls (l.take k)).length = k := by rw [bls_len, List.length_take]; omega
      rw [e, List.getElem?_append_right (by omega), e2, Nat.add_sub_cancel_left]
      exact hu
theorem nms_one (l : List Nm) : ∀ u ∈ nms l, u.oneCell' = true := by
  intro u hu
  obtain ⟨x, _, h⟩ := List.mem_flatMap.1 hu
  exact nmC_one x u h
theorem bls_one (l : List Bool) : ∀ u ∈ bls l, u.oneCell' = true := by
  intro u hu
  obtain ⟨x, _, rfl⟩ := List.mem_map.1 hu
  rfl
theorem infoBool : (Try.prog.info? 4).map (fun i => (i.zero, i.size, i.bytes)) = some (some (.bool false), 1, 1) := by kernel_rfl

theorem src3 (w3 : World) (t r i : Int) : Src (w3.alloc (.cells #[.int .i64 t, .int .i64 r, .int .i64 i] 35)) (some ⟨w3.heap.size, 0, none⟩) 1 1 3 [.int .i64 t, .int .i64 r, .int .i64 i] := .inr ⟨_, rfl, by simp, rfl, cell_three_new w3 _ _ _ _⟩
theorem src1 (w3 : World) (b : Bool) : Src (w3.alloc (.cells #[.bool b] 4)) (some ⟨w3.heap.size, 0, none⟩) 1 1 1 [.bool b] := .inr ⟨_, rfl, by simp, rfl, cell_one_new w3 _ _⟩
theorem base_up {w2 w3 : World} (h : Below w2.heap.size w2 w3) (o : Obj) : w2.heap.size ≤ (w3.alloc o).heap.size := by have := h.size; simp; omega

end Go.Proofs.Ytnbgnjpjdplocaa.Q10
