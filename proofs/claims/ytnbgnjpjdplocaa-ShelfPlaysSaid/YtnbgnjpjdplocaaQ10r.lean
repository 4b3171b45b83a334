/-
  Layer 10: ShelfFinds.
-/
import Derived.Test.YtnbgnjpjdplocaaQ10q
namespace Go.Proofs.Ytnbgnjpjdplocaa.Q10
open Go.RowKit Go.PlainAid
set_option linter.unusedVariables false
set_option linter.unusedSimpArgs false

theorem nm_eql (w : World) (a b c a' b' c' : Int) : (binOp .eql 35 (.agg #[.int .i64 a, .int .i64 b, .int .i64 c]) (.agg #[.int .i64 a', .int .i64 b', .int .i64 c'])).run Try.prog w = .ok (.bool (decide ((a, b, c) = (a', b', c')))) w := by
  go_simp
  all_goals (by_cases h1 : a = a' <;> by_cases h2 : b = b' <;> by_cases h3 : c = c' <;> simp [h1, h2, h3])
theorem nm_neq (w : World) (a b c a' b' c' : Int) : (binOp .neq 35 (.agg #[.int .i64 a, .int .i64 b, .int .i64 c]) (.agg #[.int .i64 a', .int .i64 b', .int .i64 c'])).run Try.prog w = .ok (.bool (!decide ((a, b, c) = (a', b', c')))) w := by
  go_simp
  all_goals (by_cases h1 : a = a' <;> by_cases h2 : b = b' <;> by_cases h3 : c = c' <;> simp [h1, h2, h3])

def par (z : Int) : Bool := decide (bits .and .u16 z 1 = 0)
def Lf (zs : List Int) : Nat → List En
  | 0 => []
  | i + 1 => insEn (Lf zs i) ((zs.getD i 0) % ((i : Int) + 1)).toNat ((1, 1, (i : Int)), par (zs.getD i 0))
theorem rem_in {z : Int} {i : Nat} : 0 ≤ z % ((i : Int) + 1) ∧ z % ((i : Int) + 1) ≤ i := by
  have h1 := Int.emod_nonneg z (show ((i : Int) + 1) ≠ 0 by omega)
  have h2 := Int.emod_lt_of_pos z (show 0 < ((i : Int) + 1) by omega)
  omega
theorem Lf_len (zs : List Int) (i : Nat) : (Lf zs i).length = i := by
  induction i with
  | zero => rfl
  | succ i ih =>
    have := @rem_in (zs.getD i 0) i
    rw [Lf, insEn_len (by rw [ih]; omega), ih]
theorem mem_ins {es : List En} {m : Nat} {x e : En} : e ∈ insEn es m x ↔ e = x ∨ e ∈ es := by
  unfold insEn
  rw [List.mem_append, List.mem_cons]
  constructor
  · rintro (h | h | h)
    · exact .inr (List.mem_of_mem_take h)
    · exact .inl h
    · exact .inr (List.mem_of_mem_drop h)
  · rintro (h | h)
    · exact .inr (.inl h)
    · rw [← List.take_append_drop m es] at h
      rcases List.mem_append.1 h with h | h
      · exact .inl h
      · exact .inr (.inr h)
theorem Lf_mem (zs : List Int) (i : Nat) : ∀ e ∈ Lf zs i, ∃ j : Nat, j < i ∧ e.1 = (1, 1, (j : Int)) := by
  induction i with
  | zero => intro e he; simp [Lf] at he
  | succ i ih =>
    intro e he
    rcases mem_ins.1 he with rfl | he
    · exact ⟨i, by omega, rfl⟩
    · obtain ⟨j, hj, h⟩ := ih e he
      exact ⟨j, by omega, h⟩
theorem Lf_put (zs : List Int) (i : Nat) : putE (Lf zs i) ((zs.getD i 0) % ((i : Int) + 1)) (1, 1, (i : Int)) = 0 ∧ putL (Lf zs i) ((zs.getD i 0) % ((i : Int) + 1)) ((1, 1, (i : Int)), par (zs.getD i 0)) = Lf zs (i + 1) := by
  have h1 := @rem_in (zs.getD i 0) i
  have h2 : ¬ ((zs.getD i 0) % ((i : Int) + 1) < 0 ∨ ((Lf zs i).length : Int) < (zs.getD i 0) % ((i : Int) + 1)) := by rw [Lf_len]; omega
  have h3 : ((1, 1, (i : Int)) : Nm) ∉ (Lf zs i).map Prod.fst := by
    intro h
    obtain ⟨e, he, h⟩ := List.mem_map.1 h
    obtain ⟨j, hj, h'⟩ := Lf_mem zs i e he
    rw [h'] at h
    have : ((j : Nat) : Int) = (i : Int) := by
      have := congrArg (fun x : Nm => x.2.2) h
      exact this
    omega
  unfold putE putL
  rw [if_neg h2, if_neg h2, if_neg h3, if_neg h3]
  exact ⟨rfl, rfl⟩

/-- A shelf of the call's own, at s. -/
def FO (s : Nat) (w0 : World) (l : List En) (W : World) : Prop := ∃ S, S.s = s ∧ Own S l w0 W
theorem FO.keep {s : Nat} {w0 w w' : World} {l : List En} (h : FO s w0 l w) (hb : Below w.heap.size w w') : FO s w0 l w' := by
  obtain ⟨S, h1, h2⟩ := h
  exact ⟨S, h1, h2.keep hb⟩
theorem FO.below {s : Nat} {w0 w : World} {l : List En} (h : FO s w0 l w) : Below w0.heap.size w0 w := by
  obtain ⟨S, h1, h2⟩ := h
  exact h2.below
theorem FO.all {s : Nat} {w0 w : World} {l : List En} (h : FO s w0 l w) : Calls Try.prog 23 #[.pointer (some ⟨s, 0, none⟩)] w fun e w' => e = .returned (.int .i64 (l.length : Int)) ∧ w' = w := by
  obtain ⟨S, rfl, h2⟩ := h
  exact all_as h2.l h2.at_
theorem FO.count {s : Nat} {w0 w : World} {l : List En} (h : FO s w0 l w) : Calls Try.prog 21 #[.pointer (some ⟨s, 0, none⟩)] w fun e w' => e = .returned (.int .i64 (seenN l : Int)) ∧ w' = w := by
  obtain ⟨S, rfl, h2⟩ := h
  exact count_as h2.l h2.at_
theorem FO.list {s : Nat} {w0 w : World} {l : List En} (h : FO s w0 l w) (q : Bool) : Calls Try.prog 10 #[.pointer (some ⟨s, 0, none⟩), .bool q] w fun e w' => ∃ A c, e = .returned (.slice A (listR l q).length c) ∧ Rd w' A (nms (listR l q)) ∧ Below w.heap.size w w' := by
  obtain ⟨S, rfl, h2⟩ := h
  have := shList_any S q w h2.at_
  rw [h2.l] at this
  exact this
theorem FO.put {s : Nat} {w0 w : World} {l l' : List En} (h : FO s w0 l w) {a : Int} {x : Nm} {sn : Bool} {e0 : Int} (hx : okNm x) (h1 : -9223372036854775808 ≤ a) (h2 : a ≤ 9223372036854775807) (he : putE l a x = e0) (hl : putL l a (x, sn) = l') (hfew : l.length + 1 ≤ 100000) :
    Calls Try.prog 12 #[.pointer (some ⟨s, 0, none⟩), .int .i64 a, nmV x, .bool sn] w fun e w' => e = .returned (.int .i64 e0) ∧ FO s w0 l' w' := by
  obtain ⟨S, rfl, h3⟩ := h
  refine (put_as h3.l hx h1 h2 he hl h3.at_ hfew).mono ?_
  rintro e w' ⟨he, hl⟩
  exact ⟨he, h3.left hl⟩
theorem FO.place {s : Nat} {w0 w : World} {l : List En} (h : FO s w0 l w) {x : Nm} (hx : okNm x) {j : Nat} (hj : j < l.length) (hjx : l[j].1 = x) :
    Calls Try.prog 15 #[.pointer (some ⟨s, 0, none⟩), nmV x] w fun e w' => e = .returned (.tuple #[.int .i64 (j : Int), .int .i64 (seenN (l.take j) : Int), .int .i64 0]) ∧ Below w.heap.size w w' := by
  obtain ⟨S, rfl, h2⟩ := h
  exact place_as h2.l hx hj hjx h2.at_
theorem FO.find {s : Nat} {w0 w : World} {l : List En} (h : FO s w0 l w) {a : Int} {x : Nm} (h1 : -9223372036854775808 ≤ a) (h2 : a ≤ 9223372036854775807) (hn : nth l a = some x) :
    Calls Try.prog 17 #[.pointer (some ⟨s, 0, none⟩), .int .i64 a] w fun e w' => e = .returned (.tuple #[nmV x, .int .i64 0]) ∧ Below w.heap.size w w' := by
  obtain ⟨S, rfl, h3⟩ := h
  exact find_as h3.l h1 h2 hn h3.at_
theorem FO.findNo {s : Nat} {w0 w : World} {l : List En} (h : FO s w0 l w) {a : Int} (h1 : -9223372036854775808 ≤ a) (h2 : a ≤ 9223372036854775807) (hn : nth l a = none) :
    Calls Try.prog 17 #[.pointer (some ⟨s, 0, none⟩), .int .i64 a] w fun e w' => e = .returned (.tuple #[.agg #[.int .i64 0, .int .i64 0, .int .i64 0], .int .i64 100]) ∧ Below w.heap.size w w' := by
  obtain ⟨S, rfl, h3⟩ := h
  exact find_no h3.l h1 h2 hn h3.at_
theorem FO.nod {s : Nat} {w0 w : World} {l : List En} (h : FO s w0 l w) : (l.map Prod.fst).Nodup := by
  obtain ⟨S, rfl, h3⟩ := h
  rw [← h3.l]; exact h3.at_.names

theorem FO.allB {s : Nat} {w0 w : World} {l : List En} (h : FO s w0 l w) : Calls Try.prog 23 #[.pointer (some ⟨s, 0, none⟩)] w fun e w' => e = .returned (.int .i64 (l.length : Int)) ∧ Below w.heap.size w w' :=
  h.all.mono fun e w' ⟨he, hw⟩ => ⟨he, by rw [hw]; exact Below.refl _ _⟩
theorem FO.countB {s : Nat} {w0 w : World} {l : List En} (h : FO s w0 l w) : Calls Try.prog 21 #[.pointer (some ⟨s, 0, none⟩)] w fun e w' => e = .returned (.int .i64 (seenN l : Int)) ∧ Below w.heap.size w w' :=
  h.count.mono fun e w' ⟨he, hw⟩ => ⟨he, by rw [hw]; exact Below.refl _ _⟩
theorem listR_false (l : List En) : listR l false = l.map Prod.fst := by
  rw [listR]; congr 1; exact List.filter_eq_self.2 (fun _ _ => by simp)
theorem listR_true (l : List En) : listR l true = (l.filter (·.2)).map Prod.fst := by simp [listR]
theorem seen_at {l : List En} {i : Nat} (hi : i < l.length) (hs : l[i].2 = true) : seenN (l.take i) < seenN l ∧ nth l (seenN (l.take i) : Int) = some l[i].1 := by
  have h1 := seenN_snoc hi
  rw [hs] at h1
  have h2 := seenN_mono (l := l) (show i + 1 ≤ l.length by omega)
  rw [List.take_length] at h2
  simp at h1
  refine ⟨by omega, ?_⟩
  have e : l = l.take i ++ [l[i]] ++ l.drop (i + 1) := by
    rw [List.append_assoc, List.singleton_append, ← List.drop_eq_getElem_cons hi, List.take_append_drop]
  have := nth_mid (a := l.take i) (b := [l[i]]) (c := l.drop (i + 1)) (k := 0) (x := l[i].1) (by simp [hs]) (seenN (l.take i) : Int) (by omega)
  rw [← e] at this
  exact this
theorem nth_get {l : List En} {k : Nat} {y : Nm} (h : nth l (k : Int) = some y) (hk : k < (listR l true).length) : (listR l true)[k] = y := by
  unfold nth at h
  rw [if_neg (by omega), Int.toNat_natCast, ← listR_true, List.getElem?_eq_getElem hk] at h
  exact Option.some.inj h
theorem seen_ne {l : List En} (hn : (l.map Prod.fst).Nodup) {i : Nat} (hi : i < l.length) (hs : l[i].2 = false) {k : Nat} (hk : k < (listR l true).length) : (listR l true)[k] ≠ l[i].1 := by
  intro h
  have hm := List.getElem_mem hk
  rw [h, listR_true] at hm
  obtain ⟨e, he, h2⟩ := List.mem_map.1 hm
  obtain ⟨h3, h4⟩ := List.mem_filter.1 he
  obtain ⟨j, hj, rfl⟩ := List.getElem_of_mem h3
  have := nod_at hn hj hi h2
  subst this
  rw [hs] at h4
  cases h4

theorem nms_getElem {w : World} {A : Option Addr} {l : List Nm} (h : Rd w A (nms l)) {k : Nat} (hk : k < l.length) : ∃ b off, A = some ⟨b, off, none⟩ ∧ b < w.heap.size ∧ w.cell? ⟨b, off + k * 3, none⟩ = some (.int .i64 l[k].1) ∧ w.cell? ⟨b, off + k * 3 + 1, none⟩ = some (.int .i64 l[k].2.1) ∧ w.cell? ⟨b, off + k * 3 + 2, none⟩ = some (.int .i64 l[k].2.2) := nm_cells h hk

set_option maxRecDepth 100000 in
set_option maxHeartbeats 4000000 in
theorem lawFinds (w : World) (a : Option Addr) (len cap : Nat) (ys : List Int) (hrow : IsRow .u16 w a len cap ys) (hsz : cap * 2 ≤ 140737488351232) :
    Calls Try.prog 5 #[.slice a len cap] w fun e w' => e = .returned (.bool true) ∧ Below w.heap.size w w' := by
  obtain ⟨hr, hzl, hwf⟩ := Rd.of_row hrow
  obtain ⟨zs, hzs⟩ : ∃ zs, zs = ys.take len := ⟨_, rfl⟩
  rw [← hzs] at hr hzl hwf
  have hlen : len ≤ 140737488351232 := by
    rcases hrow with ⟨rfl, rfl, rfl, rfl⟩ | ⟨x, rfl, hl, _⟩ <;> omega
  have HR := Lib.hid hr
  have HW := Lib.hid hwf
  clear hr hrow hzs hwf hsz
  obtain ⟨N, hN⟩ : ∃ N, N = if len < 300 then len else 300 := ⟨_, rfl⟩
  have hN1 : N ≤ len := by split at hN <;> omega
  have hN2 : N ≤ 300 := by split at hN <;> omega
  have hN3 : ∀ i, i ≤ N → ¬ (i < len ∧ i < 300) → i = N := by intro i; split at hN <;> omega
  have hN4 : ∀ i, i ≤ N → i < len → i < 300 → i < N := by intro i; split at hN <;> omega
  have HN3 := Lib.hid hN3
  have HN4 := Lib.hid hN4
  clear hN hN3 hN4
  go_enter Try.func5, Try.ntmps5
  go_wp2_with fail
  refine (awake_any w).mono ?_
  rintro e w1 ⟨rfl, hb1⟩
  have HB1 := Lib.hid hb1
  clear hb1
  go_wp2_with fail
  refine (new_own w1).mono ?_
  rintro e w2 ⟨S0, rfl, hO⟩
  obtain ⟨s, hs0⟩ : ∃ s, S0.s = s := ⟨_, rfl⟩
  have F0 : Hid (FO s w [] w2) := ⟨S0, hs0, hO.at_, hO.l, HB1.out.trans (hO.below.mono HB1.out.size), fun k hk => Nat.le_trans HB1.out.size (hO.mine k hk)⟩
  rw [hs0]
  clear hO hs0
  go_wp2
  go_loopw [5] (fun ix wr => ∃ k : Nat, k ≤ N ∧ ix = .int .i64 (k : Int) ∧ Hid (FO s w (Lf zs k) wr)) (fun i _ => N - (intOf i).toNat)
  case atStart => exact ⟨0, by omega, rfl, F0⟩
  case round =>
    clear F0
    obtain ⟨k, hk, rfl, F1⟩ := hrel
    by_cases hlt : k < len ∧ k < 300
    · obtain ⟨hlt1, hlt2⟩ := hlt
      have hkN := HN4.out k hk hlt1 hlt2
      have hlz1 : (k : Int) < (len : Int) := by omega
      have hlz2 : (k : Int) < 300 := by omega
      have hkz : k < zs.length := by omega
      obtain ⟨g, off, rfl, hg, hc⟩ := HR.out.get (k := k) (by simpa using hkz)
      obtain ⟨z, hz⟩ : ∃ z, z = zs.getD k 0 := ⟨_, rfl⟩
      have hz' : zs[k] = z := by rw [hz]; simp [List.getD, hkz]
      rw [List.getElem_map, hz'] at hc
      have hwz : (Lit.int .u16 z).wf = true := by rw [← hz']; exact HW.out _ (List.getElem_mem hkz)
      have hz0 : 0 ≤ z ∧ z ≤ 65535 := by simpa [Lit.wf, IntKind.min, IntKind.max, IntKind.signed, IntKind.bits] using hwz
      obtain ⟨hz1, hz2⟩ := hz0
      have hlf := Lf_len zs k
      have AL : Hid (∀ W, Hid (FO s w (Lf zs k) W) → Calls Try.prog 23 #[.pointer (some ⟨s, 0, none⟩)] W fun e w' => e = .returned (.int .i64 (k : Int)) ∧ w'.cell? ⟨g, off + k, none⟩ = some (.int .u16 z) ∧ Hid (FO s w (Lf zs k) w')) := by
        intro W hW
        refine hW.out.all.mono ?_
        rintro e w' ⟨he, rfl⟩
        exact ⟨by rw [he, hlf], (hW.out.below.cell (p := ⟨g, off + k, none⟩) hg).trans hc, hW⟩
      have ID : Hid (∀ W, Hid (FO s w (Lf zs k) W) → Calls Try.prog 13 #[.int .i64 (k : Int)] W fun e w' => e = .returned (.agg #[.int .i64 1, .int .i64 1, .int .i64 (k : Int)]) ∧ w'.cell? ⟨g, off + k, none⟩ = some (.int .u16 z) ∧ Hid (FO s w (Lf zs k) w')) := by
        intro W hW
        refine (id_any k W).mono ?_
        rintro e w' ⟨he, hb⟩
        have h2 := hW.out.keep hb
        exact ⟨he, (h2.below.cell (p := ⟨g, off + k, none⟩) hg).trans hc, h2⟩
      have PU : Hid (∀ W, Hid (FO s w (Lf zs k) W) → Calls Try.prog 12 #[.pointer (some ⟨s, 0, none⟩), .int .i64 (z % ((k : Int) + 1)), .agg #[.int .i64 1, .int .i64 1, .int .i64 (k : Int)], .bool (par z)] W fun e w' => e = .returned (.int .i64 0) ∧ w'.cell? ⟨g, off + k, none⟩ = some (.int .u16 z) ∧ Hid (FO s w (Lf zs (k + 1)) w')) := by
        intro W hW
        have h1 := @rem_in z k
        have h2 := Lf_put zs k
        rw [← hz] at h2
        refine (hW.out.put (a := z % ((k : Int) + 1)) (x := (1, 1, (k : Int))) (sn := par z) (ok_id (by omega) (by omega)) (by omega) (by omega) h2.1 h2.2 (by rw [hlf]; omega)).mono ?_
        rintro e w' ⟨he, h3⟩
        exact ⟨he, (h3.below.cell (p := ⟨g, off + k, none⟩) hg).trans hc, h3⟩
      have F2 : Hid (FO s w (Lf zs k) wr.drew) := F1.out.keep (Below.refl _ _).drew
      have c0 : wr.drew.cell? ⟨g, off + k, none⟩ = some (.int .u16 z) := (F2.out.below.cell (p := ⟨g, off + k, none⟩) hg).trans hc
      have hn1 : ¬ ((k : Int) + 1 = 0) := by omega
      have hw1 : IntKind.i64.wrap z = z := by rw [IntKind.wrap_i64]; omega
      have hw2 : IntKind.i64.wrap ((k : Int) + 1) = (k : Int) + 1 := by rw [IntKind.wrap_i64]; omega
      have hw3 : z.tmod ((k : Int) + 1) = z % ((k : Int) + 1) := Int.tmod_eq_emod_of_nonneg hz1
      clear hlf hz hz' hwz hc
      go_upto_region 10 with fail
      refine wp_region_noPanic ?_
      refine wp_region_held_drew (S := fun W => W.cell? ⟨g, off + k, none⟩ = some (.int .u16 z)) (by kernel_rfl) c0 (fun hHeld => ?_)
      refine wpAnyH_take (i := 0) (oi := { dst := some 33, op := Op.move (Operand.tmp 4), type := 24, pos := "law.go:117", after := #[], guard := none }) (v := ?v1) rfl (by kernel_rfl) (by kernel_rfl) (by kernel_rfl) (fun _ _ _ h => h) (Or.inl ⟨by rfl, ?y1⟩) hHeld ?r1
      case y1 =>
        intro wv hSw
        (try dsimp only at hSw)
        go_simp
        all_goals (with_reducible rfl)
      simp only [Act.put, List.setIfInBounds_toArray, List.set_cons_zero, List.set_cons_succ]
      refine wpAnyH_take (i := 2) (oi := { dst := some 35, op := Op.move (Operand.tmp 5), type := 3, pos := "law.go:117", after := #[], guard := none }) (v := ?v2) rfl (by kernel_rfl) (by kernel_rfl) (by kernel_rfl) (fun _ _ _ h => h) (Or.inl ⟨by rfl, ?y2⟩) hHeld ?r2
      case y2 =>
        intro wv hSw
        (try dsimp only at hSw)
        go_simp
        all_goals (with_reducible rfl)
      simp only [Act.put, List.setIfInBounds_toArray, List.set_cons_zero, List.set_cons_succ]
      refine wpAnyH_ready (rs := [1]) (by kernel_rfl) (by simp) ?_
      refine AllReadyH.cons (o := { dst := some 34, op := Op.call { callee := Callee.value (Operand.func 23), args := #[Operand.tmp 33], argTypes := #[24] }, type := 3, pos := "law.go:117", after := #[{ on := 0, ground := Ground.data }], guard := none }) rfl (fun K hK => ?_) AllReadyH.nil
      go_simp
      refine (AL.out _ (by assumption)).mono ?_
      rintro e w5 ⟨rfl, j0, HO5⟩
      go_simp
      refine hK.out _ _ (by exact j0) (fun hHeld => ?_)
      clear hK K
      (try simp only [Act.put, List.setIfInBounds_toArray, List.set_cons_zero, List.set_cons_succ])
      refine wpAnyH_take (i := 3) (oi := { dst := some 36, op := Op.binOp BinOp.neq 3 (Operand.tmp 34) (Operand.tmp 35) 3, type := 4, pos := "law.go:117", after := #[{ on := 1, ground := Ground.data }, { on := 2, ground := Ground.data }], guard := none }) (v := ?v3) rfl (by kernel_rfl) (by kernel_rfl) (by kernel_rfl) (fun _ _ _ h => h) (Or.inl ⟨by rfl, ?y3⟩) hHeld ?r3
      case y3 =>
        intro wv hSw
        (try dsimp only at hSw)
        go_simp
        all_goals (with_reducible rfl)
      simp only [Act.put, List.setIfInBounds_toArray, List.set_cons_zero, List.set_cons_succ]
      refine wpAnyH_take (i := 4) (oi := { dst := some 37, op := Op.move (Operand.tmp 36), type := 4, pos := "law.go:117", after := #[{ on := 3, ground := Ground.data }, { on := 1, ground := Ground.chain }], guard := none }) (v := ?v4) rfl (by kernel_rfl) (by kernel_rfl) (by kernel_rfl) (fun _ _ _ h => h) (Or.inl ⟨by rfl, ?y4⟩) hHeld ?r4
      case y4 =>
        intro wv hSw
        (try dsimp only at hSw)
        go_simp
        all_goals (with_reducible rfl)
      simp only [Act.put, List.setIfInBounds_toArray, List.set_cons_zero, List.set_cons_succ]
      refine wpAnyH_take (i := 5) (oi := { dst := some 38, op := Op.move (Operand.tmp 4), type := 24, pos := "law.go:117", after := #[{ on := 4, ground := Ground.guard }], guard := some (4, false) }) (v := ?v5) rfl (by kernel_rfl) (by kernel_rfl) (by kernel_rfl) (fun _ _ _ h => h) (Or.inl ⟨by rfl, ?y5⟩) hHeld ?r5
      case y5 =>
        intro wv hSw
        (try dsimp only at hSw)
        go_simp
        all_goals (with_reducible rfl)
      simp only [Act.put, List.setIfInBounds_toArray, List.set_cons_zero, List.set_cons_succ]
      refine wpAnyH_take (i := 6) (oi := { dst := some 39, op := Op.move (Operand.tmp 0), type := 41, pos := "law.go:117", after := #[{ on := 4, ground := Ground.guard }], guard := some (4, false) }) (v := ?v6) rfl (by kernel_rfl) (by kernel_rfl) (by kernel_rfl) (fun _ _ _ h => h) (Or.inl ⟨by rfl, ?y6⟩) hHeld ?r6
      case y6 =>
        intro wv hSw
        (try dsimp only at hSw)
        go_simp
        all_goals (with_reducible rfl)
      simp only [Act.put, List.setIfInBounds_toArray, List.set_cons_zero, List.set_cons_succ]
      refine wpAnyH_take (i := 7) (oi := { dst := some 40, op := Op.move (Operand.tmp 5), type := 3, pos := "law.go:117", after := #[{ on := 4, ground := Ground.guard }], guard := some (4, false) }) (v := ?v7) rfl (by kernel_rfl) (by kernel_rfl) (by kernel_rfl) (fun _ _ _ h => h) (Or.inl ⟨by rfl, ?y7⟩) hHeld ?r7
      case y7 =>
        intro wv hSw
        (try dsimp only at hSw)
        go_simp
        all_goals (with_reducible rfl)
      simp only [Act.put, List.setIfInBounds_toArray, List.set_cons_zero, List.set_cons_succ]
      refine wpAnyH_take (i := 8) (oi := { dst := some 41, op := Op.indexAddr 41 (Operand.tmp 39) (Operand.tmp 40), type := 0, pos := "law.go:117", after := #[{ on := 6, ground := Ground.data }, { on := 7, ground := Ground.data }, { on := 4, ground := Ground.guard }], guard := some (4, false) }) (v := ?v8) rfl (by kernel_rfl) (by kernel_rfl) (by kernel_rfl) (fun _ _ _ h => h) (Or.inl ⟨by rfl, ?y8⟩) hHeld ?r8
      case y8 =>
        intro wv hSw
        (try dsimp only at hSw)
        go_simp
        all_goals (with_reducible rfl)
      simp only [Act.put, List.setIfInBounds_toArray, List.set_cons_zero, List.set_cons_succ]
      refine wpAnyH_take (i := 9) (oi := { dst := some 42, op := Op.load 42 (Operand.tmp 41), type := 42, pos := "law.go:117", after := #[{ on := 8, ground := Ground.data }, { on := 4, ground := Ground.guard }], guard := some (4, false) }) (v := ?v9) rfl (by kernel_rfl) (by kernel_rfl) (by kernel_rfl) (fun _ _ _ h => h) (Or.inl ⟨by rfl, ?y9⟩) hHeld ?r9
      case y9 =>
        intro wv hSw
        (try dsimp only at hSw)
        go_simp
        all_goals (with_reducible rfl)
      simp only [Act.put, List.setIfInBounds_toArray, List.set_cons_zero, List.set_cons_succ]
      refine wpAnyH_take (i := 10) (oi := { dst := some 43, op := Op.convert 42 3 (Operand.tmp 42), type := 3, pos := "law.go:117", after := #[{ on := 9, ground := Ground.data }, { on := 4, ground := Ground.guard }], guard := some (4, false) }) (v := ?v10) rfl (by kernel_rfl) (by kernel_rfl) (by kernel_rfl) (fun _ _ _ h => h) (Or.inl ⟨by rfl, ?y10⟩) hHeld ?r10
      case y10 =>
        intro wv hSw
        (try dsimp only at hSw)
        go_simp
        all_goals (with_reducible rfl)
      simp only [Act.put, List.setIfInBounds_toArray, List.set_cons_zero, List.set_cons_succ]
      refine wpAnyH_take (i := 11) (oi := { dst := some 44, op := Op.move (Operand.tmp 5), type := 3, pos := "law.go:117", after := #[{ on := 4, ground := Ground.guard }], guard := some (4, false) }) (v := ?v11) rfl (by kernel_rfl) (by kernel_rfl) (by kernel_rfl) (fun _ _ _ h => h) (Or.inl ⟨by rfl, ?y11⟩) hHeld ?r11
      case y11 =>
        intro wv hSw
        (try dsimp only at hSw)
        go_simp
        all_goals (with_reducible rfl)
      simp only [Act.put, List.setIfInBounds_toArray, List.set_cons_zero, List.set_cons_succ]
      refine wpAnyH_take (i := 12) (oi := { dst := some 45, op := Op.binOp BinOp.add 3 (Operand.tmp 44) (Operand.const (Value.int IntKind.i64 1)) 3, type := 3, pos := "law.go:117", after := #[{ on := 11, ground := Ground.data }, { on := 4, ground := Ground.guard }], guard := some (4, false) }) (v := ?v12) rfl (by kernel_rfl) (by kernel_rfl) (by kernel_rfl) (fun _ _ _ h => h) (Or.inl ⟨by rfl, ?y12⟩) hHeld ?r12
      case y12 =>
        intro wv hSw
        (try dsimp only at hSw)
        go_simp
        all_goals (with_reducible rfl)
      simp only [Act.put, List.setIfInBounds_toArray, List.set_cons_zero, List.set_cons_succ]
      refine wpAnyH_take (i := 13) (oi := { dst := some 46, op := Op.binOp BinOp.rem 3 (Operand.tmp 43) (Operand.tmp 45) 3, type := 3, pos := "law.go:117", after := #[{ on := 10, ground := Ground.data }, { on := 12, ground := Ground.data }, { on := 4, ground := Ground.guard }], guard := some (4, false) }) (v := ?v13) rfl (by kernel_rfl) (by kernel_rfl) (by kernel_rfl) (fun _ _ _ h => h) (Or.inl ⟨by rfl, ?y13⟩) hHeld ?r13
      case y13 =>
        intro wv hSw
        (try dsimp only at hSw)
        go_simp
        all_goals (with_reducible rfl)
      simp only [Act.put, List.setIfInBounds_toArray, List.set_cons_zero, List.set_cons_succ]
      refine wpAnyH_take (i := 14) (oi := { dst := some 47, op := Op.move (Operand.tmp 5), type := 3, pos := "law.go:117", after := #[{ on := 4, ground := Ground.guard }], guard := some (4, false) }) (v := ?v14) rfl (by kernel_rfl) (by kernel_rfl) (by kernel_rfl) (fun _ _ _ h => h) (Or.inl ⟨by rfl, ?y14⟩) hHeld ?r14
      case y14 =>
        intro wv hSw
        (try dsimp only at hSw)
        go_simp
        all_goals (with_reducible rfl)
      simp only [Act.put, List.setIfInBounds_toArray, List.set_cons_zero, List.set_cons_succ]
      refine wpAnyH_take (i := 16) (oi := { dst := some 49, op := Op.move (Operand.tmp 0), type := 41, pos := "law.go:117", after := #[{ on := 4, ground := Ground.guard }], guard := some (4, false) }) (v := ?v15) rfl (by kernel_rfl) (by kernel_rfl) (by kernel_rfl) (fun _ _ _ h => h) (Or.inl ⟨by rfl, ?y15⟩) hHeld ?r15
      case y15 =>
        intro wv hSw
        (try dsimp only at hSw)
        go_simp
        all_goals (with_reducible rfl)
      simp only [Act.put, List.setIfInBounds_toArray, List.set_cons_zero, List.set_cons_succ]
      refine wpAnyH_take (i := 17) (oi := { dst := some 50, op := Op.move (Operand.tmp 5), type := 3, pos := "law.go:117", after := #[{ on := 4, ground := Ground.guard }], guard := some (4, false) }) (v := ?v16) rfl (by kernel_rfl) (by kernel_rfl) (by kernel_rfl) (fun _ _ _ h => h) (Or.inl ⟨by rfl, ?y16⟩) hHeld ?r16
      case y16 =>
        intro wv hSw
        (try dsimp only at hSw)
        go_simp
        all_goals (with_reducible rfl)
      simp only [Act.put, List.setIfInBounds_toArray, List.set_cons_zero, List.set_cons_succ]
      refine wpAnyH_take (i := 18) (oi := { dst := some 51, op := Op.indexAddr 41 (Operand.tmp 49) (Operand.tmp 50), type := 0, pos := "law.go:117", after := #[{ on := 16, ground := Ground.data }, { on := 17, ground := Ground.data }, { on := 4, ground := Ground.guard }], guard := some (4, false) }) (v := ?v17) rfl (by kernel_rfl) (by kernel_rfl) (by kernel_rfl) (fun _ _ _ h => h) (Or.inl ⟨by rfl, ?y17⟩) hHeld ?r17
      case y17 =>
        intro wv hSw
        (try dsimp only at hSw)
        go_simp
        all_goals (with_reducible rfl)
      simp only [Act.put, List.setIfInBounds_toArray, List.set_cons_zero, List.set_cons_succ]
      refine wpAnyH_take (i := 19) (oi := { dst := some 52, op := Op.load 42 (Operand.tmp 51), type := 42, pos := "law.go:117", after := #[{ on := 18, ground := Ground.data }, { on := 4, ground := Ground.guard }], guard := some (4, false) }) (v := ?v18) rfl (by kernel_rfl) (by kernel_rfl) (by kernel_rfl) (fun _ _ _ h => h) (Or.inl ⟨by rfl, ?y18⟩) hHeld ?r18
      case y18 =>
        intro wv hSw
        (try dsimp only at hSw)
        go_simp
        all_goals (with_reducible rfl)
      simp only [Act.put, List.setIfInBounds_toArray, List.set_cons_zero, List.set_cons_succ]
      refine wpAnyH_take (i := 20) (oi := { dst := some 53, op := Op.binOp BinOp.and 42 (Operand.tmp 52) (Operand.const (Value.int IntKind.u16 1)) 42, type := 42, pos := "law.go:117", after := #[{ on := 19, ground := Ground.data }, { on := 4, ground := Ground.guard }], guard := some (4, false) }) (v := ?v19) rfl (by kernel_rfl) (by kernel_rfl) (by kernel_rfl) (fun _ _ _ h => h) (Or.inl ⟨by rfl, ?y19⟩) hHeld ?r19
      case y19 =>
        intro wv hSw
        (try dsimp only at hSw)
        go_simp
        all_goals (with_reducible rfl)
      simp only [Act.put, List.setIfInBounds_toArray, List.set_cons_zero, List.set_cons_succ]
      refine wpAnyH_take (i := 21) (oi := { dst := some 54, op := Op.binOp BinOp.eql 42 (Operand.tmp 53) (Operand.const (Value.int IntKind.u16 0)) 42, type := 4, pos := "law.go:117", after := #[{ on := 20, ground := Ground.data }, { on := 4, ground := Ground.guard }], guard := some (4, false) }) (v := ?v20) rfl (by kernel_rfl) (by kernel_rfl) (by kernel_rfl) (fun _ _ _ h => h) (Or.inl ⟨by rfl, ?y20⟩) hHeld ?r20
      case y20 =>
        intro wv hSw
        (try dsimp only at hSw)
        go_simp
        all_goals (with_reducible rfl)
      simp only [Act.put, List.setIfInBounds_toArray, List.set_cons_zero, List.set_cons_succ]
      refine wpAnyH_ready (rs := [15]) (by kernel_rfl) (by simp) ?_
      refine AllReadyH.cons (o := { dst := some 48, op := Op.call { callee := Callee.value (Operand.func 13), args := #[Operand.tmp 47], argTypes := #[3] }, type := 35, pos := "law.go:117", after := #[{ on := 14, ground := Ground.data }, { on := 4, ground := Ground.chain }, { on := 4, ground := Ground.guard }], guard := some (4, false) }) rfl (fun K hK => ?_) AllReadyH.nil
      go_simp
      refine (ID.out _ (by assumption)).mono ?_
      rintro e w6 ⟨rfl, j0, HO6⟩
      go_simp
      refine hK.out _ _ (by exact j0) (fun hHeld => ?_)
      clear hK K
      (try simp only [Act.put, List.setIfInBounds_toArray, List.set_cons_zero, List.set_cons_succ])
      refine wpAnyH_ready (rs := [22]) (by kernel_rfl) (by simp) ?_
      refine AllReadyH.cons (o := { dst := some 55, op := Op.call { callee := Callee.value (Operand.func 12), args := #[Operand.tmp 38, Operand.tmp 46, Operand.tmp 48, Operand.tmp 54], argTypes := #[24, 3, 35, 4] }, type := 43, pos := "law.go:117", after := #[{ on := 5, ground := Ground.data }, { on := 13, ground := Ground.data }, { on := 15, ground := Ground.data }, { on := 21, ground := Ground.data }, { on := 15, ground := Ground.chain }, { on := 4, ground := Ground.guard }], guard := some (4, false) }) rfl (fun K hK => ?_) AllReadyH.nil
      go_simp
      refine (PU.out _ (by assumption)).mono ?_
      rintro e w7 ⟨rfl, j0, HO7⟩
      go_simp
      refine hK.out _ _ (by exact j0) (fun hHeld => ?_)
      clear hK K
      (try simp only [Act.put, List.setIfInBounds_toArray, List.set_cons_zero, List.set_cons_succ])
      refine wpAnyH_take (i := 23) (oi := { dst := some 56, op := Op.binOp BinOp.neq 43 (Operand.tmp 55) (Operand.const (Value.int IntKind.i64 0)) 43, type := 4, pos := "law.go:117", after := #[{ on := 22, ground := Ground.data }, { on := 4, ground := Ground.guard }], guard := some (4, false) }) (v := ?v21) rfl (by kernel_rfl) (by kernel_rfl) (by kernel_rfl) (fun _ _ _ h => h) (Or.inl ⟨by rfl, ?y21⟩) hHeld ?r21
      case y21 =>
        intro wv hSw
        (try dsimp only at hSw)
        go_simp
        all_goals (with_reducible rfl)
      simp only [Act.put, List.setIfInBounds_toArray, List.set_cons_zero, List.set_cons_succ]
      refine wpAnyH_take (i := 24) (oi := { dst := some 57, op := Op.pick (Operand.tmp 37) (Operand.const (Value.bool true)) (Operand.tmp 56), type := 4, pos := "law.go:117", after := #[{ on := 4, ground := Ground.data }, { on := 23, ground := Ground.data }], guard := none }) (v := ?v22) rfl (by kernel_rfl) (by kernel_rfl) (by kernel_rfl) (fun _ _ _ h => h) (Or.inl ⟨by rfl, ?y22⟩) hHeld ?r22
      case y22 =>
        intro wv hSw
        (try dsimp only at hSw)
        go_simp
        all_goals (with_reducible rfl)
      simp only [Act.put, List.setIfInBounds_toArray, List.set_cons_zero, List.set_cons_succ]
      refine wpAnyH_done (by kernel_rfl) ?_ _
      refine NoPanic.normal ?_
      clear hHeld
      go_wp2
      go_roundw
      case rel => exact ⟨k + 1, by omega, by go_num, HO7⟩
      case measure => simp [intOf]; omega
    · have hkk := HN3.out k hk hlt
      clear HN3 HN4 hN1 HR HW hlen
      have hlt' : ¬ ((k : Int) < (len : Int) ∧ (k : Int) < 300) := by omega
      have hl9 := Lf_len zs k
      obtain ⟨l, hl⟩ : ∃ l, l = Lf zs k := ⟨_, rfl⟩
      have hok : Hid (∀ e ∈ l, okNm e.1) := by
        intro e he
        rw [hl] at he
        obtain ⟨j, hj, h'⟩ := Lf_mem zs k e he
        rw [h']
        exact ok_id (by omega) (by omega)
      rw [← hl] at F1 hl9
      have hle : l.length ≤ 300 := by omega
      have hsl := seenN_le l
      clear hkk hl hl9 hzl hk hN2
      have hla : (listR l false).length = l.length := by rw [listR_false]; simp
      have hlb : (listR l true).length = seenN l := by rw [listR_true]; simp [seenN]
      have HLA := Lib.hid hla
      have HLB := Lib.hid hlb
      clear hla hlb
      have hcs : (((k : Int) < (len : Int)) ∧ k < len ∧ ¬ ((k : Int) < 300) ∧ ¬ k < 300) ∨ (¬ ((k : Int) < (len : Int)) ∧ ¬ k < len) := by omega
      clear hlt hlt'
      rcases hcs with ⟨hp1, hp2, hp3, hp4⟩ | ⟨hp1, hp2⟩
      all_goals
        go_wp2_with fail
        refine (F1.out.list false).mono ?_
        rintro e w3 ⟨A1, c1, rfl, hra, hb3⟩
        have F3 := Lib.hid (F1.out.keep hb3)
        have R3 := Lib.hid hra
        clear hra hb3 hp1 hp2
        rw [HLA.out]
        go_wp2_with fail
        refine (F3.out.list true).mono ?_
        rintro e w4 ⟨A2, c2, rfl, hrb, hb4⟩
        have F4 := Lib.hid (F3.out.keep hb4)
        have R4 := Lib.hid (R3.out.keep hb4)
        have Q4 := Lib.hid hrb
        clear hrb hb4 F3 R3
        rw [HLB.out]
        go_wp2_with fail
        refine (F4.out.allB).mono ?_
        rintro e w5 ⟨rfl, hb5⟩
        have F5 := Lib.hid (F4.out.keep hb5)
        have R5 := Lib.hid (R4.out.keep hb5)
        have Q5 := Lib.hid (Q4.out.keep hb5)
        clear hb5 F4 R4 Q4
        go_wp2_with fail
        refine (F5.out.countB).mono ?_
        rintro e w6 ⟨rfl, hb6⟩
        have F6 := Lib.hid (F5.out.keep hb6)
        have R6 := Lib.hid (R5.out.keep hb6)
        have Q6 := Lib.hid (Q5.out.keep hb6)
        clear hb6 F5 R5 Q5 F1
        go_wp2
        go_loopw [8, 9] (fun kx ix wr => ∃ i : Nat, i ≤ l.length ∧ ix = .int .i64 (i : Int) ∧ kx = .int .i64 (seenN (l.take i) : Int) ∧ Hid (Below w6.heap.size w6 wr)) (fun _ i _ => l.length - (intOf i).toNat)
        case atStart => exact ⟨0, by omega, rfl, rfl, Below.refl _ _⟩
        case round =>
          obtain ⟨i, hi, rfl, rfl, HB⟩ := hrel
          by_cases hlt3 : i < l.length
          · have F7 := Lib.hid (F6.out.keep HB.out)
            obtain ⟨b1, o1, rfl, hb1, y0, y1, y2⟩ := nm_cells (R6.out.keep HB.out) (k := i) (by rw [HLA.out]; exact hlt3)
            have hnm : (listR l false)[i]'(by rw [HLA.out]; exact hlt3) = l[i].1 := by
              simp [listR_false]
            rw [hnm] at y0 y1 y2
            have C7 := Lib.hid (F7.out.place (hok.out _ (List.getElem_mem hlt3)) hlt3 rfl)
            have hnod := F7.out.nod
            have hs1 : seenN (l.take i) ≤ 300 := by have := seenN_le (l.take i); rw [List.length_take] at this; omega
            have hsn := seenN_snoc hlt3
            cases hs : l[i].2 with
            | true =>
              obtain ⟨ha1, ha2⟩ := seen_at hlt3 hs
              have C8 := fun W (hW : Hid (FO s w l W)) => hW.out.find (a := (seenN (l.take i) : Int)) (by omega) (by omega) ha2
              have HC8 := Lib.hid C8
              obtain ⟨b2, o2, rfl, hb2, z0, z1, z2⟩ := nm_cells (Q6.out.keep HB.out) (k := seenN (l.take i)) (by rw [HLB.out]; exact ha1)
              rw [nth_get ha2 (by rw [HLB.out]; exact ha1)] at z0 z1 z2
              rw [hs] at hsn
              simp only [if_true] at hsn
              have HSN := Lib.hid hsn
              clear hsn ha2 C8 hnod hnm hs
              obtain ⟨⟨x1, x2, x3⟩, hx⟩ : ∃ x, x = l[i].1 := ⟨_, rfl⟩
              rw [← hx] at y0 y1 y2 z0 z1 z2 C7 HC8
              simp only [nmV] at C7 HC8
              clear hx
              have hEq : ∀ W : World, (binOp .eql 35 (.agg #[.int .i64 x1, .int .i64 x2, .int .i64 x3]) (.agg #[.int .i64 x1, .int .i64 x2, .int .i64 x3])).run Try.prog W = .ok (.bool true) W := fun W => by rw [nm_eql]; simp
              have hNe : ∀ W : World, (binOp .neq 35 (.agg #[.int .i64 x1, .int .i64 x2, .int .i64 x3]) (.agg #[.int .i64 x1, .int .i64 x2, .int .i64 x3])).run Try.prog W = .ok (.bool false) W := fun W => by rw [nm_neq]; simp
              have hk1 : (seenN (l.take i) : Int) < (seenN l : Int) := by omega
              obtain ⟨q, hq⟩ : ∃ q, q = seenN (l.take i) := ⟨_, rfl⟩
              rw [← hq] at z0 z1 z2 C7 HC8 hk1 ha1 hs1 HSN
              rw [← hq]
              have HQ := Lib.hid hq
              clear hq
              go_wp2_with fail
              refine (C7.out).mono ?_
              rintro e w8 ⟨rfl, hb8⟩
              have HB8 := Lib.hid (HB.out.trans (hb8.mono HB.out.size))
              have F8 := Lib.hid (F7.out.keep hb8)
              replace y0 := (hb8.cell (p := ⟨b1, o1 + i * 3, none⟩) hb1).trans y0
              replace y1 := (hb8.cell (p := ⟨b1, o1 + i * 3 + 1, none⟩) hb1).trans y1
              replace y2 := (hb8.cell (p := ⟨b1, o1 + i * 3 + 2, none⟩) hb1).trans y2
              replace z0 := (hb8.cell (p := ⟨b2, o2 + q * 3, none⟩) hb2).trans z0
              replace z1 := (hb8.cell (p := ⟨b2, o2 + q * 3 + 1, none⟩) hb2).trans z1
              replace z2 := (hb8.cell (p := ⟨b2, o2 + q * 3 + 2, none⟩) hb2).trans z2
              have hbl1 := Nat.lt_of_lt_of_le hb1 hb8.size
              clear hb8 C7 F7
              go_wp2
              go_quiet (fail)
              have F9 : Hid (FO s w l (w8.drewN nq)) := F8.out.keep (below_drewN (Below.refl _ _) nq)
              go_wp2_with fail
              refine (HC8.out _ F9).mono ?_
              rintro e w9 ⟨rfl, hb9⟩
              have HB9 := Lib.hid ((below_drewN HB8.out nq).trans (hb9.mono HB8.out.size))
              replace y0 := (hb9.cell (p := ⟨b1, o1 + i * 3, none⟩) hbl1).trans y0
              replace y1 := (hb9.cell (p := ⟨b1, o1 + i * 3 + 1, none⟩) hbl1).trans y1
              replace y2 := (hb9.cell (p := ⟨b1, o1 + i * 3 + 2, none⟩) hbl1).trans y2
              have hbl2 := Nat.lt_of_lt_of_le hbl1 hb9.size
              have hbl3 : b1 ≠ w9.heap.size := by have : (w8.drewN nq).heap.size = w8.heap.size := rfl; omega
              clear hb9 z0 z1 z2 HB8 F8 F9 hEq
              go_wp2
              go_quiet (fail)
              go_wp2
              go_roundw
              case rel => exact ⟨i + 1, by omega, by go_num, by rw [HSN.out]; simp, below_drewN (HB9.out.alloc (by exact HB9.out.size) _) _⟩
              case measure => simp [intOf]; omega
            | false =>
              rw [hs] at hsn
              simp only [if_false, Nat.add_zero, Bool.false_eq_true] at hsn
              have HSN := Lib.hid hsn
              have hse := fun (h : seenN (l.take i) < seenN l) => seen_ne hnod hlt3 hs (k := seenN (l.take i)) (by rw [HLB.out]; exact h)
              have HSE := Lib.hid hse
              clear hsn hnod hnm hs hse
              obtain ⟨q, hq⟩ : ∃ q, q = seenN (l.take i) := ⟨_, rfl⟩
              rw [← hq] at C7 hs1 HSN
              rw [← hq]
              obtain ⟨⟨x1, x2, x3⟩, hx⟩ : ∃ x, x = l[i].1 := ⟨_, rfl⟩
              rw [← hx] at y0 y1 y2 C7
              simp only [nmV] at C7
              have HQ := Lib.hid hq
              have HX := Lib.hid hx
              clear hq hx
              by_cases hks : q < seenN l
              · have hk1 : (q : Int) < (seenN l : Int) := by omega
                obtain ⟨b2, o2, rfl, hb2, z0, z1, z2⟩ := nm_cells (Q6.out.keep HB.out) (k := q) (by rw [HLB.out]; exact hks)
                have hne : (listR l true)[q]'(by rw [HLB.out]; exact hks) ≠ (x1, x2, x3) := by
                  rw [HX.out]
                  have := HSE.out (by rw [← HQ.out]; exact hks)
                  simp only [← HQ.out] at this
                  exact this
                obtain ⟨⟨v1, v2, v3⟩, hv⟩ : ∃ v, v = (listR l true)[q]'(by rw [HLB.out]; exact hks) := ⟨_, rfl⟩
                rw [← hv] at z0 z1 z2 hne
                clear hv
                have hEq : ∀ W : World, (binOp .eql 35 (.agg #[.int .i64 v1, .int .i64 v2, .int .i64 v3]) (.agg #[.int .i64 x1, .int .i64 x2, .int .i64 x3])).run Try.prog W = .ok (.bool false) W := fun W => by rw [nm_eql, decide_eq_false hne]
                clear hne
                go_wp2_with fail
                refine (C7.out).mono ?_
                rintro e w8 ⟨rfl, hb8⟩
                have HB8 := Lib.hid (HB.out.trans (hb8.mono HB.out.size))
                replace y0 := (hb8.cell (p := ⟨b1, o1 + i * 3, none⟩) hb1).trans y0
                replace y1 := (hb8.cell (p := ⟨b1, o1 + i * 3 + 1, none⟩) hb1).trans y1
                replace y2 := (hb8.cell (p := ⟨b1, o1 + i * 3 + 2, none⟩) hb1).trans y2
                replace z0 := (hb8.cell (p := ⟨b2, o2 + q * 3, none⟩) hb2).trans z0
                replace z1 := (hb8.cell (p := ⟨b2, o2 + q * 3 + 1, none⟩) hb2).trans z1
                replace z2 := (hb8.cell (p := ⟨b2, o2 + q * 3 + 2, none⟩) hb2).trans z2
                clear hb8 C7 F7
                go_wp2
                go_quiet (fail)
                go_wp2
                go_roundw
                case rel => exact ⟨i + 1, by omega, by go_num, by rw [HSN.out], below_drewN HB8.out _⟩
                case measure => simp [intOf]; omega
              · have hk1 : ¬ (q : Int) < (seenN l : Int) := by omega
                go_wp2_with fail
                refine (C7.out).mono ?_
                rintro e w8 ⟨rfl, hb8⟩
                have HB8 := Lib.hid (HB.out.trans (hb8.mono HB.out.size))
                clear hb8 C7 F7
                go_wp2
                go_quiet (fail)
                go_wp2
                go_roundw
                case rel => exact ⟨i + 1, by omega, by go_num, by rw [HSN.out], below_drewN HB8.out _⟩
                case measure => simp [intOf]; omega
          · obtain rfl : i = l.length := by omega
            rw [List.take_length] at *
            have F7 := Lib.hid (F6.out.keep HB.out)
            have C8 := Lib.hid (F7.out.findNo (a := (seenN l : Int)) (by omega) (by omega) (nth_none (.inr (Int.le_refl _))))
            go_wp2_with fail
            refine (C8.out).mono ?_
            rintro e w8 ⟨rfl, hb8⟩
            have HB8 := Lib.hid (F7.out.keep hb8).below
            clear hb8 C8 F7
            go_wp2
            go_ret
            exact ⟨by trivial, HB8.out.alloc (by exact HB8.out.size) _⟩

end Go.Proofs.Ytnbgnjpjdplocaa.Q10
