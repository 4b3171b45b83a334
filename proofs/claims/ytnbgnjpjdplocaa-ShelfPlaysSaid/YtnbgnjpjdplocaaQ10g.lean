/-
  Layer 10, walks: the shelf in memory; how many there are, room for one more, the kth seen one.
-/
import Derived.Test.YtnbgnjpjdplocaaQ10f
namespace Go.Proofs.Ytnbgnjpjdplocaa.Q10
open Go.RowKit Go.PlainAid
set_option linter.unusedVariables false
set_option linter.unusedSimpArgs false

/-- A block: where it is, its row, its entries. -/
structure Bk where
  p : Nat
  v : Value
  es : List En
def Bk.At (b : Bk) (w : World) : Prop := w.heap[b.p]? = some (.cells #[b.v, .int .i64 (seenN b.es)] 57 (0, 0)) ∧ w.ownsRow 0 63 4 b.v b.es.length (ens b.es)
def obs (v : Value) : List Nat := match v.ownBlock with
  | some g => [g]
  | none => []
theorem mem_obs {v : Value} {g : Nat} : g ∈ obs v ↔ v.ownBlock = some g := by
  unfold obs
  split
  · rename_i h; rw [h]; simp; exact eq_comm
  · rename_i h; rw [h]; simp
def Bk.foot (b : Bk) : List Nat := b.p :: obs b.v
def flat (L : List Bk) : List En := L.flatMap (·.es)
def asg (L : List Bk) : List (Nm × Nat) := L.flatMap fun b => b.es.map fun e => (e.1, b.p)
def ptrs (L : List Bk) : List Value := L.map fun b => .pointer (some ⟨b.p, 0, none⟩)
theorem asg_names (L : List Bk) : (asg L).map Prod.fst = (flat L).map Prod.fst := by
  induction L with
  | nil => rfl
  | cons b L ih => simp [asg, flat] at ih ⊢; rw [ih]; rfl
theorem asg_len (L : List Bk) : (asg L).length = (flat L).length := by
  have := congrArg List.length (asg_names L)
  simpa using this
theorem flat_append (a b : List Bk) : flat (a ++ b) = flat a ++ flat b := by simp [flat]
theorem asg_append (a b : List Bk) : asg (a ++ b) = asg a ++ asg b := by simp [asg]
theorem flat_succ {L : List Bk} {k : Nat} (h : k < L.length) : flat (L.take (k + 1)) = flat (L.take k) ++ L[k].es := by
  rw [List.take_succ_eq_append_getElem h, flat_append]; simp [flat]
theorem flat_split {L : List Bk} {k : Nat} (h : k < L.length) : flat L = flat (L.take k) ++ L[k].es ++ flat (L.drop (k + 1)) := by
  have : L = L.take k ++ L[k] :: L.drop (k + 1) := by rw [← List.drop_eq_getElem_cons h, List.take_append_drop]
  conv => lhs; rw [this]
  rw [flat_append]
  show flat (L.take k) ++ (L[k].es ++ flat (L.drop (k + 1))) = _
  rw [List.append_assoc]

structure Sf where
  s : Nat
  hb : Nat
  bv : Value
  bks : List Bk
def Sf.foot (S : Sf) : List Nat := S.s :: S.hb :: (obs S.bv ++ S.bks.flatMap Bk.foot)

structure ShAt (S : Sf) (w : World) : Prop where
  box : w.heap[S.s]? = some (.cells #[S.bv, .map (some S.hb)] 61 (0, 0))
  row : w.ownsRow 0 54 1 S.bv S.bks.length (ptrs S.bks)
  each : ∀ b ∈ S.bks, b.At w
  apart : S.foot.Nodup
  ne : S.bks ≠ []
  home : Home w S.hb (asg S.bks)
  few : (flat S.bks).length ≤ 100000
  short : S.bks.length ≤ (flat S.bks).length + 1

theorem ShAt.foot_lt {S : Sf} {w : World} (h : ShAt S w) : ∀ k ∈ S.foot, k < w.heap.size := by
  intro k hk
  simp only [Sf.foot, List.mem_cons, List.mem_append, List.mem_flatMap, mem_obs] at hk
  rcases hk with rfl | rfl | hk | ⟨b, hb, hk⟩
  · exact heap_lt h.box
  · exact h.home.lt
  · exact (h.row.lt k hk).2
  · simp only [Bk.foot, List.mem_cons, mem_obs] at hk
    rcases hk with rfl | hk
    · exact heap_lt (h.each b hb).1
    · exact ((h.each b hb).2.lt k hk).2
theorem Bk.At.turn {b : Bk} {w w' : World} {F : Nat → Prop} (h : b.At w) (hg : Turn F w w') (hn : ∀ k ∈ b.foot, ¬ F k) : b.At w' :=
  ⟨(hg.block b.p (heap_lt h.1) (hn _ (by simp [Bk.foot]))).trans h.1, own_turn h.2 hg (fun g hg' => hn g (by simp [Bk.foot, mem_obs, hg']))⟩
theorem ShAt.turn {S : Sf} {w w' : World} {F : Nat → Prop} (h : ShAt S w) (hg : Turn F w w') (hn : ∀ k ∈ S.foot, ¬ F k) : ShAt S w' where
  box := (hg.block S.s (heap_lt h.box) (hn _ (by simp [Sf.foot]))).trans h.box
  row := own_turn h.row hg (fun g hg' => hn g (by simp [Sf.foot, mem_obs, hg']))
  each b hb := (h.each b hb).turn hg (fun k hk => hn k (by simp only [Sf.foot, List.mem_cons, List.mem_append, List.mem_flatMap]; exact .inr (.inr (.inr ⟨b, hb, hk⟩))))
  apart := h.apart
  ne := h.ne
  home := h.home.turn hg (hn _ (by simp [Sf.foot]))
  few := h.few
  short := h.short
theorem ShAt.keep {S : Sf} {w w' : World} (h : ShAt S w) (hb : Below w.heap.size w w') : ShAt S w' :=
  h.turn (Turn.of_below hb (fun k => w.heap.size ≤ k)) (fun k hk => by have := h.foot_lt k hk; omega)

/-- What a walk reads of the shelf. -/
theorem ShAt.facts {S : Sf} {w : World} (h : ShAt S w) : ∃ A c, w.cell? ⟨S.s, 0, none⟩ = some (.slice A S.bks.length c) ∧ w.cell? ⟨S.s, 1, none⟩ = some (.map (some S.hb)) ∧ Rd w A (ptrs S.bks) ∧ S.bks.length ≤ c ∧ c ≤ 9223372036854775807 ∧ S.bv = .slice A S.bks.length c := by
  obtain ⟨A, c, hv, hr, hc, hm⟩ := own_rd h.row
  refine ⟨A, c, ?_, cells_at h.box 1, hr, hc, hm, hv⟩
  rw [cells_at h.box 0, ← hv]; rfl
theorem Bk.At.facts {b : Bk} {w : World} (h : b.At w) : ∃ A c, w.cell? ⟨b.p, 0, none⟩ = some (.slice A b.es.length c) ∧ w.cell? ⟨b.p, 1, none⟩ = some (.int .i64 (seenN b.es)) ∧ Rd w A (ens b.es) ∧ b.es.length ≤ c ∧ c ≤ 9223372036854775807 ∧ b.v = .slice A b.es.length c := by
  obtain ⟨A, c, hv, hr, hc, hm⟩ := own_rd h.2
  refine ⟨A, c, ?_, cells_at h.1 1, hr, hc, hm, hv⟩
  rw [cells_at h.1 0, ← hv]; rfl
theorem ptrs_cell {w : World} {A : Option Addr} {L : List Bk} (h : Rd w A (ptrs L)) {k : Nat} (hk : k < L.length) : ∃ b off, A = some ⟨b, off, none⟩ ∧ b < w.heap.size ∧ w.cell? ⟨b, off + k, none⟩ = some (.pointer (some ⟨L[k].p, 0, none⟩)) := by
  obtain ⟨b, off, e, hb, hc⟩ := h.get (k := k) (by simpa [ptrs] using hk)
  exact ⟨b, off, e, hb, by rw [hc]; simp [ptrs]⟩
theorem es_few {L : List Bk} {k : Nat} (hk : k < L.length) : (flat (L.take k)).length + L[k].es.length ≤ (flat L).length := by
  have := congrArg List.length (flat_split hk)
  simp only [List.length_append] at this
  omega

set_option maxRecDepth 100000 in
set_option maxHeartbeats 1000000 in
theorem all_any (S : Sf) (w : World) (h : ShAt S w) : Calls Try.prog 23 #[.pointer (some ⟨S.s, 0, none⟩)] w fun e w' => e = .returned (.int .i64 ((flat S.bks).length : Int)) ∧ w' = w := by
  obtain ⟨A, c, c0, c1, -⟩ := h.facts
  have hl := h.home.len 3
  rw [asg_len] at hl
  clear h c0
  go_enter Try.func23, Try.ntmps23
  go_wp2
  go_ret
  exact ⟨rfl, rfl⟩

set_option maxRecDepth 100000 in
set_option maxHeartbeats 1000000 in
theorem count_any (S : Sf) (w : World) (h : ShAt S w) : Calls Try.prog 21 #[.pointer (some ⟨S.s, 0, none⟩)] w fun e w' => e = .returned (.int .i64 (seenN (flat S.bks) : Int)) ∧ w' = w := by
  obtain ⟨A, c, c0, c1, hr, hc, hm, -⟩ := h.facts
  have H := Lib.hid h
  have HR := Lib.hid hr
  have hsh := h.short
  have hfew := h.few
  have hsl := seenN_le (flat S.bks)
  clear h hr c1
  go_enter Try.func21, Try.ntmps21
  go_wp2
  go_loopw [3, 11] (fun a i wr => ∃ k : Nat, k ≤ S.bks.length ∧ i = .int .i64 (k : Int) ∧ a = .int .i64 (seenN (flat (S.bks.take k)) : Int) ∧ wr = w) (fun _ i _ => S.bks.length - (intOf i).toNat)
  case atStart => exact ⟨0, by omega, rfl, rfl, rfl⟩
  case round =>
    obtain ⟨k, hk, rfl, rfl, rfl⟩ := hrel
    by_cases hlt : k < S.bks.length
    · obtain ⟨b, off, rfl, hbl, p0⟩ := ptrs_cell HR.out hlt
      obtain ⟨A2, c2, d0, d1, -⟩ := (H.out.each S.bks[k] (List.getElem_mem hlt)).facts
      have hsn : seenN (flat (S.bks.take (k + 1))) = seenN (flat (S.bks.take k)) + seenN S.bks[k].es := by rw [flat_succ hlt, seenN_append]
      have hb1 := es_few hlt
      have hb2 := seenN_le (flat (S.bks.take k))
      have hb3 := seenN_le S.bks[k].es
      have HS := Lib.hid hsn
      clear hsn d0
      generalize S.bks[k].p = pk at *
      generalize seenN S.bks[k].es = sk at *
      go_wp2
      go_roundw
      case rel => exact ⟨k + 1, by omega, by go_num, by rw [HS.out]; simp, by trivial⟩
      case measure => simp [intOf]; omega
    · obtain rfl : k = S.bks.length := by omega
      rw [List.take_length]
      go_wp2
      go_ret
      exact ⟨by trivial, by trivial⟩

/-- What room answers. -/
def RoomIs (S : Sf) (a : Int) (e : Ending) : Prop :=
  ((a < 0 ∨ (flat S.bks).length < a) ∧ e = .returned (.tuple #[.int .i64 0, .int .i64 0, .bool false])) ∨
  ∃ (n m : Nat) (hn : n < S.bks.length), m ≤ S.bks[n].es.length ∧ a = ((flat (S.bks.take n)).length + m : Nat) ∧ e = .returned (.tuple #[.int .i64 (n : Int), .int .i64 (m : Int), .bool true])

set_option maxRecDepth 100000 in
set_option maxHeartbeats 1000000 in
theorem room_any (S : Sf) (a : Int) (h1 : -9223372036854775808 ≤ a) (h2 : a ≤ 9223372036854775807) (w : World) (h : ShAt S w) : Calls Try.prog 24 #[.pointer (some ⟨S.s, 0, none⟩), .int .i64 a] w fun e w' => RoomIs S a e ∧ w' = w := by
  obtain ⟨A, c, c0, c1, hr, hc, hm, -⟩ := h.facts
  have H := Lib.hid h
  have HR := Lib.hid hr
  have hsh := h.short
  have hfew := h.few
  clear h hr c1
  by_cases hneg : a < 0
  · go_enter Try.func24, Try.ntmps24
    go_wp2
    go_ret3
    exact ⟨.inl ⟨.inl hneg, rfl⟩, rfl⟩
  · go_enter Try.func24, Try.ntmps24
    go_wp2
    go_loopw [1, 16] (fun x i wr => ∃ k : Nat, k ≤ S.bks.length ∧ i = .int .i64 (k : Int) ∧ x = .int .i64 (a - (flat (S.bks.take k)).length) ∧ 0 ≤ a - (flat (S.bks.take k)).length ∧ (k = 0 ∨ 0 < a - (flat (S.bks.take k)).length) ∧ wr = w) (fun _ i _ => S.bks.length - (intOf i).toNat)
    case atStart => exact ⟨0, by omega, rfl, by simp [flat], by simp [flat]; omega, .inl rfl, rfl⟩
    case round =>
      obtain ⟨k, hk, rfl, rfl, h0, hz, rfl⟩ := hrel
      by_cases hlt : k < S.bks.length
      · obtain ⟨b, off, rfl, hbl, p0⟩ := ptrs_cell HR.out hlt
        obtain ⟨A2, c2, d0, d1, -⟩ := (H.out.each S.bks[k] (List.getElem_mem hlt)).facts
        have hsn : (flat (S.bks.take (k + 1))).length = (flat (S.bks.take k)).length + S.bks[k].es.length := by rw [flat_succ hlt, List.length_append]
        have hb1 := es_few hlt
        by_cases hin : a - (flat (S.bks.take k)).length ≤ S.bks[k].es.length
        · have HQ : Hid (RoomIs S a (.returned (.tuple #[.int .i64 (k : Int), .int .i64 (a - (flat (S.bks.take k)).length), .bool true]))) :=
            .inr ⟨k, (a - (flat (S.bks.take k)).length).toNat, hlt, by omega, by omega, by rw [Int.toNat_of_nonneg h0]⟩
          clear hsn d1
          generalize S.bks[k].p = pk at *
          generalize S.bks[k].es.length = ek at *
          generalize (flat (S.bks.take k)).length = fk at *
          go_wp2
          go_ret3
          exact ⟨HQ.out, by trivial⟩
        · have HS := Lib.hid hsn
          clear hsn d1
          generalize S.bks[k].p = pk at *
          generalize S.bks[k].es.length = ek at *
          generalize (flat (S.bks.take k)).length = fk at *
          go_wp2
          go_roundw
          case rel => exact ⟨k + 1, by omega, by go_num, by rw [HS.out]; congr 1; omega, by rw [HS.out]; omega, .inr (by rw [HS.out]; omega), by trivial⟩
          case measure => simp [intOf]; omega
      · obtain rfl : k = S.bks.length := by omega
        have hne : S.bks.length ≠ 0 := fun e => H.out.ne (List.eq_nil_of_length_eq_zero e)
        have HQ : Hid (RoomIs S a (.returned (.tuple #[.int .i64 0, .int .i64 0, .bool false]))) := by
          refine .inl ⟨.inr ?_, rfl⟩
          rw [List.take_length] at hz
          rcases hz with hz | hz
          · exact absurd hz hne
          · omega
        clear h0 hz
        go_wp2
        go_ret3
        exact ⟨HQ.out, by trivial⟩

end Go.Proofs.Ytnbgnjpjdplocaa.Q10
