/-
  Layer 5, walks: one number of a vector, its end, whether one covers another.
-/
import Derived.Test.YtphnimmhjnhajaaKA
import Derived.OwnWalk
import Derived.Laws.CopyOwn
import Derived.Shelf.Abstract
import Derived.StillTailTactics
import Derived.Deep.RegionHeld3
import Derived.WalkKit
import Derived.WalkSpells
import Derived.WalkLawsBesides
import Derived.Lib.Hide
import Derived.Handy
import Derived.Laws.RangeAny
import Derived.Lib.OthersKept
import Derived.RangeFuncBox
import Derived.Maps.AppendAt
import Derived.BigQuiet
import Derived.Deep.QuietTactic
import Derived.PlainAid
import Derived.Deep.LoopGhost
import Derived.Deep.Draws
import Derived.Lib.AppendStr
namespace Go.Proofs.Ytphnimmhjnhajaa.S5
open Go.RowKit Go.PlainAid M5
set_option linter.unusedVariables false

def is (l : List Int) : List Value := l.map (Value.int .i64)
theorem is_len (l : List Int) : (is l).length = l.length := by simp [is]
theorem is_get {zs : List Int} {k : Nat} (h : k < (is zs).length) : (is zs)[k] = .int .i64 (zs.getD k 0) := by
  have hk : k < zs.length := by rwa [is_len] at h
  have e : (is zs)[k] = .int .i64 zs[k] := by simp [is]
  rw [e, List.getD_eq_getElem?_getD, List.getElem?_eq_getElem hk]; rfl
theorem is_snoc (l : List Int) (x : Int) : is (l ++ [x]) = is l ++ [.int .i64 x] := by simp [is]
theorem rd_at {w : World} {A : Option Addr} {v : List Int} (h : Rd w A (is v)) {k : Nat} (hk : k < v.length) :
    ∃ b off x, A = some ⟨b, off, none⟩ ∧ b < w.heap.size ∧ w.cell? ⟨b, off + k, none⟩ = some (.int .i64 x) ∧ Hid (v.getD k 0 = x) := by
  obtain ⟨b, off, e, hb, hc⟩ := h.get (k := k) (by rw [is_len]; exact hk)
  rw [is_get] at hc
  exact ⟨b, off, _, e, hb, hc, rfl⟩

set_option maxRecDepth 100000 in
set_option maxHeartbeats 400000 in
theorem at_any (A : Option Addr) (n c : Nat) (v : List Int) (r : Int) (w : World) (hr : Rd w A (is v)) (hn : v.length = n) (hle : n ≤ 1000000000) (h1 : r ≤ 9223372036854775807) :
    Calls Try.prog 58 #[.slice A n c, .int .i64 r] w fun e w' => e = .returned (.int .i64 (atL v r)) ∧ w = w' := by
  subst hn
  by_cases h0 : r < 1
  · have HF := Lib.hid (atL_out (v := v) (.inl h0))
    clear hr
    go_enter Try.func58, Try.ntmps58
    go_wp2
    go_ret
    exact ⟨by rw [HF.out]; rfl, rfl⟩
  · obtain ⟨k, rfl⟩ : ∃ k : Nat, r = (k : Int) + 1 := ⟨(r - 1).toNat, by omega⟩
    by_cases h2 : k < v.length
    · have HF := Lib.hid (atL_succ v k)
      obtain ⟨b, off, x, rfl, hb, hc, HX⟩ := rd_at hr h2
      have h3 : ¬ (v.length : Int) < (k : Int) + 1 := by omega
      have h4 : (k : Int) + 1 - 1 = (k : Int) := by omega
      clear hr
      go_enter Try.func58, Try.ntmps58
      go_wp2
      go_ret
      exact ⟨by rw [HF.out, HX.out]; rfl, rfl⟩
    · have h2' : (v.length : Int) < (k : Int) + 1 := by omega
      have HF := Lib.hid (atL_out (v := v) (.inr h2'))
      clear hr
      go_enter Try.func58, Try.ntmps58
      go_wp2
      go_ret
      exact ⟨by rw [HF.out]; rfl, rfl⟩

set_option maxRecDepth 100000 in
set_option maxHeartbeats 400000 in
theorem prAt_any (A : Option Addr) (n c : Nat) (v : List Int) (r : Int) (w : World) (hr : Rd w A (is v)) (hn : v.length = n) (hle : n ≤ 1000000000) (h1 : r ≤ 9223372036854775807) :
    Calls Try.prog 34 #[.slice A n c, .int .i64 r] w fun e w' => e = .returned (.int .i64 (atL v r)) ∧ w = w' := by
  have HR := Lib.hid hr
  have HN := Lib.hid hn
  clear hr hn
  go_enter Try.func34, Try.ntmps34
  go_wp2_with fail
  refine (at_any A n c v r _ HR.out HN.out hle h1).mono ?_
  rintro e w1 ⟨rfl, rfl⟩
  go_wp2
  go_ret
  exact ⟨rfl, rfl⟩

theorem endN_on {v : List Int} {k : Nat} (h : v.getD k 0 = 0) : endN v (k + 1) = endN v k := by simp only [endN]; rw [if_pos h]
theorem endN_here {v : List Int} {k : Nat} (h : v.getD k 0 ≠ 0) : endN v (k + 1) = k + 1 := by simp only [endN]; rw [if_neg h]

set_option maxRecDepth 100000 in
set_option maxHeartbeats 400000 in
theorem end_any (A : Option Addr) (n c : Nat) (v : List Int) (w : World) (hr : Rd w A (is v)) (hn : v.length = n) (hle : n ≤ 1000000000) :
    Calls Try.prog 56 #[.slice A n c] w fun e w' => e = .returned (.int .i64 ((endN v v.length : Nat) : Int)) ∧ w = w' := by
  subst hn
  have HR := Lib.hid hr
  obtain ⟨m, hm⟩ : ∃ m, m = endN v v.length := ⟨_, rfl⟩
  rw [← hm]
  have HM := Lib.hid hm
  clear hr hm
  go_enter Try.func56, Try.ntmps56
  go_wp2
  go_loop [3] (fun i => ∃ k : Nat, k ≤ v.length ∧ i = .int .i64 (k : Int) ∧ Hid (m = endN v k)) (fun i => (intOf i).toNat)
  case atStart => exact ⟨v.length, Nat.le_refl _, rfl, HM⟩
  case round =>
    obtain ⟨k, hk, rfl, HK⟩ := hrel
    rcases Nat.eq_zero_or_pos k with rfl | hk0
    · have HZ : Hid (m = 0) := HK
      go_wp2
      go_ret
      exact ⟨by rw [HZ.out]; rfl, rfl⟩
    · obtain ⟨j, rfl⟩ : ∃ j, k = j + 1 := ⟨k - 1, by omega⟩
      obtain ⟨b, off, x, rfl, hb, hc, HX⟩ := rd_at HR.out (k := j) (by omega)
      have hcast : ((j + 1 : Nat) : Int) = (j : Int) + 1 := by omega
      by_cases h0 : x = 0
      · subst h0
        have HE : Hid (m = endN v j) := by have := HK.out; rw [endN_on HX.out] at this; exact this
        clear HK hk0
        rw [hcast]
        clear hcast
        go_wp2
        go_round
        case rel => exact ⟨j, by omega, by go_num, HE⟩
        case measure => simp [intOf]
      · have HE : Hid (m = j + 1) := by have := HK.out; rw [endN_here (by rw [HX.out]; exact h0)] at this; exact this
        have h00 : (x == 0) = false := by simpa using h0
        clear h0 HK hk0
        rw [hcast]
        clear hcast
        go_wp2
        go_ret
        exact ⟨by rw [HE.out]; go_num, rfl⟩

end Go.Proofs.Ytphnimmhjnhajaa.S5

/-
  Layer 5, walks: whether one vector covers another.
-/
namespace Go.Proofs.Ytphnimmhjnhajaa.S5
open Go.RowKit Go.PlainAid M5
set_option linter.unusedVariables false

theorem all_on {v w : List Int} {k : Nat} (h : ∀ j, j < k → w.getD j 0 ≤ v.getD j 0) (hk : w.getD k 0 ≤ v.getD k 0) : ∀ j, j < k + 1 → w.getD j 0 ≤ v.getD j 0 := by
  intro j hj
  by_cases e : j = k
  · rw [e]; exact hk
  · exact h j (by omega)

end Go.Proofs.Ytphnimmhjnhajaa.S5

/-
  Layer 5, walks: the document's covering; copies; the same numbers; the document's plain vector.
-/
namespace Go.Proofs.Ytphnimmhjnhajaa.S5
open Go.RowKit Go.PlainAid M5
set_option linter.unusedVariables false

theorem own_full {w : World} {base e g n : Nat} {xs : List Value} (h : w.ownsRow base e 1 (.slice (some ⟨g, 0, none⟩) n n) n xs) : w.heap[g]? = some (.cells xs.toArray e (0, 0)) ∧ base ≤ g ∧ n ≤ maxLen ∧ xs.length = n := by
  have hl : xs.length = n := by simpa using h.1
  rcases h.2 with ⟨h', _⟩ | ⟨g', cap', cur, h', hb, hg, _, hcm, hcs, htake⟩
  · simp at h'
  · simp only [Value.slice.injEq, Option.some.injEq, Addr.mk.injEq, and_true, true_and] at h'
    obtain ⟨rfl, rfl⟩ := h'
    have : cur.toList = xs := by rw [← htake]; exact (List.take_of_length_le (by simp at hcs ⊢; omega)).symm
    refine ⟨?_, hb, hcm, hl⟩
    rw [hg, ← this]
theorem own_of_full {w : World} {base e g n : Nat} {xs : List Value} (hg : w.heap[g]? = some (.cells xs.toArray e (0, 0))) (hb : base ≤ g) (hm : n ≤ maxLen) (hl : xs.length = n) : w.ownsRow base e 1 (.slice (some ⟨g, 0, none⟩) n n) n xs :=
  ⟨by simpa using hl, .inr ⟨g, n, xs.toArray, rfl, hb, hg, Nat.le_refl _, hm, by simpa using hl, by rw [Nat.mul_one, ← hl]; simp⟩⟩
theorem splice_pad (v : List Int) (m : Nat) : splice (List.replicate m (Value.int .i64 0)) 0 (is (v.take m)) = is (padN v m) := by
  rw [padN_eq]
  unfold splice is
  simp only [List.take_zero, List.nil_append, List.map_append, List.map_replicate, List.length_map, List.length_take, Nat.zero_add]
  congr 1
  rw [List.drop_replicate]
  congr 1
  omega
theorem size_int : (Try.prog.info? 3).map (·.size) = some 1 := by kernel_rfl

end Go.Proofs.Ytphnimmhjnhajaa.S5

/-
  Layer 5, walks: plain vectors, what is put together by a function, merged and met ones.
-/
namespace Go.Proofs.Ytphnimmhjnhajaa.S5
open Go.RowKit Go.PlainAid M5
set_option linter.unusedVariables false

theorem is_take (v : List Int) (n : Nat) : is (v.take n) = (is v).take n := by simp [is]
theorem rd_take {w : World} {A : Option Addr} {v : List Int} (h : Rd w A (is v)) (n : Nat) : Rd w A (is (v.take n)) := by
  rcases h with h0 | ⟨b, off, e, hb, hc⟩
  · left
    rw [is_take, h0]; simp
  · right
    refine ⟨b, off, e, hb, fun j hj => ?_⟩
    have hj2 : j < (is v).length := by rw [is_take, List.length_take] at hj; omega
    rw [hc j hj2]
    simp only [is_take, List.getElem_take]

end Go.Proofs.Ytphnimmhjnhajaa.S5

/-
  Layer 5, walks: what is put together by a function; the merged vector and the met one.
-/
namespace Go.Proofs.Ytphnimmhjnhajaa.S5
open Go.RowKit Go.PlainAid M5
set_option linter.unusedVariables false

theorem fill_set (l : List Int) {x k : Nat} (y : Int) (hl : l.length = k) (hk : k < x) : (l ++ List.replicate (x - k) 0).set k y = (l ++ [y]) ++ List.replicate (x - (k + 1)) 0 := by
  subst hl
  rw [List.set_append_right _ _ (Nat.le_refl _), Nat.sub_self]
  obtain ⟨j, hj⟩ : ∃ j, x - l.length = j + 1 := ⟨x - l.length - 1, by omega⟩
  rw [hj, show x - (l.length + 1) = j by omega, List.replicate_succ, List.set_cons_zero, List.append_assoc]
  rfl
/-- WHAT THE LOOP OF together KEEPS. -/
def TogRel (f : Int → Int → Int) (v u : List Int) (x g B : Nat) (w : World) (i : Value) (wr : World) : Prop :=
  ∃ k : Nat, k ≤ x ∧ i = .int .i64 (k : Int) ∧ wr.ownsRow B 3 1 (.slice (some ⟨g, 0, none⟩) x x) x (is (zipN f v u k ++ List.replicate (x - k) 0)) ∧ Below B w wr
theorem TogRel.step {f : Int → Int → Int} {v u : List Int} {x g B k : Nat} {w wr : World} {y : Int} (hBg : B ≤ g) (hk : k < x) (hy : y = f (v.getD k 0) (u.getD k 0))
    (ho : wr.ownsRow B 3 1 (.slice (some ⟨g, 0, none⟩) x x) x (is (zipN f v u k ++ List.replicate (x - k) 0))) (hb : Below B w wr) :
    TogRel f v u x g B w (.int .i64 ((k : Int) + 1)) (wr.setCell ⟨g, k, none⟩ (.int .i64 y)) := by
  refine ⟨k + 1, by omega, by go_num, ?_, hb.setCell hBg _⟩
  have h := (ho.stored k (.int .i64 y)).1
  rw [zipN_snoc, ← hy, ← fill_set _ _ (zipN_len f v u k) hk]
  have e : is ((zipN f v u k ++ List.replicate (x - k) 0).set k y) = (is (zipN f v u k ++ List.replicate (x - k) 0)).set k (.int .i64 y) := by
    unfold is; rw [List.map_set]
  rw [e]
  exact h

end Go.Proofs.Ytphnimmhjnhajaa.S5

/-
  Layer 5, walks: the merged vector and the met one, the program's and the document's.
-/
namespace Go.Proofs.Ytphnimmhjnhajaa.S5
open Go.RowKit Go.PlainAid Go.Shelf M5
set_option linter.unusedVariables false

/-- WHAT THE DOCUMENT's LOOPS KEEP: the list so far. -/
def GrowRel (F : Nat → List Int) (x B : Nat) (w : World) (v i : Value) (wr : World) : Prop :=
  ∃ k : Nat, k ≤ x ∧ i = .int .i64 ((k : Int) + 1) ∧ wr.ownsRow B 3 1 v k (is (F k)) ∧ Below B w wr
theorem GrowRel.step {F : Nat → List Int} {x B k : Nat} {w wr w1 : World} {v v1 : Value} {y : Int} (hB : B ≤ wr.heap.size) (hk : k < x) (hF : F (k + 1) = F k ++ [y]) (ho : wr.ownsRow B 3 1 v k (is (F k))) (hb : Below B w wr)
    (h1 : w1.ownsRow B 3 1 v1 (k + 1) (is (F k) ++ [.int .i64 y])) (o : Obj) (hg : (wr.alloc o).grownBy w1 v.ownBlock) : GrowRel F x B w v1 (.int .i64 ((k : Int) + 1 + 1)) w1 := by
  refine ⟨k + 1, by omega, by go_num, ?_, (hb.alloc hB o).grown hg (by simp; omega) (fun q hq => (ho.lt q hq).1)⟩
  rw [hF, is_snoc]
  exact h1

end Go.Proofs.Ytphnimmhjnhajaa.S5

/-
  Layer 5, walks: a vector with another number; the same numbers; whether numbers may be a vector.
-/
namespace Go.Proofs.Ytphnimmhjnhajaa.S5
open Go.RowKit Go.PlainAid Go.Shelf M5
set_option linter.unusedVariables false

theorem same_len {v u : List Int} (h : v.length ≠ u.length) : decide (v = u) = false := by
  simp only [decide_eq_false_iff_not]
  rintro rfl; exact h rfl
theorem same_not {v u : List Int} {k : Nat} (h : v.getD k 0 ≠ u.getD k 0) : decide (v = u) = false := by
  simp only [decide_eq_false_iff_not]
  rintro rfl; exact h rfl
theorem same_all {v u : List Int} (hl : v.length = u.length) (h : ∀ j, j < v.length → v.getD j 0 = u.getD j 0) : decide (v = u) = true := by
  simp only [decide_eq_true_eq]
  refine list_ext hl fun k => ?_
  by_cases hk : k < v.length
  · exact h k hk
  · rw [getD_far (by omega), getD_far (by omega)]
theorem eq_on {v w : List Int} {k : Nat} (h : ∀ j, j < k → v.getD j 0 = w.getD j 0) (hk : v.getD k 0 = w.getD k 0) : ∀ j, j < k + 1 → v.getD j 0 = w.getD j 0 := by
  intro j hj
  by_cases e : j = k
  · rw [e]; exact hk
  · exact h j (by omega)

set_option maxRecDepth 100000 in
set_option maxHeartbeats 400000 in
theorem same_any (A B : Option Addr) (n m c d : Nat) (v u : List Int) (w : World) (ha : Rd w A (is v)) (hb : Rd w B (is u)) (hn : v.length = n) (hm : u.length = m) (hle : n ≤ 1000000000) (hlm : m ≤ 1000000000) :
    Calls Try.prog 16 #[.slice A n c, .slice B m d] w fun e w' => e = .returned (.bool (decide (v = u))) ∧ Below w.heap.size w w' := by
  by_cases hnm : n = m
  · subst hnm
    have HA := Lib.hid ha
    have HB := Lib.hid hb
    have HN := Lib.hid hn
    have HM := Lib.hid hm
    clear ha hb hn hm
    go_enter Try.func16, Try.ntmps16
    go_wp2
    go_loopw [5] (fun i wr => ∃ k : Nat, k ≤ n ∧ i = .int .i64 (k : Int) ∧ Hid (∀ j, j < k → v.getD j 0 = u.getD j 0) ∧ Below w.heap.size w wr) (fun i _ => n - (intOf i).toNat)
    case atStart => exact ⟨0, by omega, rfl, fun j h => by omega, Below.refl _ _⟩
    case round =>
      obtain ⟨k, hk, rfl, HK, hbw⟩ := hrel
      have hbn : ∀ n, Below w.heap.size w (wr.drewN n) := fun n => below_drewN hbw n
      have HBN := Lib.hid hbn
      clear hbn
      by_cases hlt : k < n
      · have h1 := rd_at (HA.out.keep hbw) (k := k) (by rw [HN.out]; exact hlt)
        have h2 := rd_at (HB.out.keep hbw) (k := k) (by rw [HM.out]; exact hlt)
        obtain ⟨b, off, x, rfl, hbl, hc, HX⟩ := h1
        obtain ⟨b', off', y, rfl, hbl', hc', HY⟩ := h2
        by_cases hxy : x = y
        · subst hxy
          have HK2 : Hid (∀ j, j < k + 1 → v.getD j 0 = u.getD j 0) := eq_on HK.out (by rw [HX.out, HY.out])
          go_wp2
          go_quiet (fail)
          go_wp2
          go_roundw
          case rel => exact ⟨k + 1, by omega, by go_num, HK2, HBN.out nq⟩
          case measure => simp [intOf]; omega
        · have HF := Lib.hid (same_not (v := v) (u := u) (k := k) (by rw [HX.out, HY.out]; exact hxy))
          have hne : (x != y) = true := by simpa using hxy
          have hne2 : (x == y) = false := by simpa using hxy
          go_wp2
          go_quiet (fail)
          go_wp2
          go_ret
          exact ⟨by rw [HF.out]; rfl, HBN.out nq⟩
      · obtain rfl : k = n := by omega
        have HF := Lib.hid (same_all (v := v) (u := u) (by rw [HN.out, HM.out]) (by rw [HN.out]; exact HK.out))
        go_wp2
        go_ret
        exact ⟨by rw [HF.out]; rfl, hbw⟩
  · have HF := Lib.hid (same_len (v := v) (u := u) (by rw [hn, hm]; exact hnm))
    have hnz : ¬ (n : Int) = (m : Int) := by omega
    have hnb : ((n : Int) == (m : Int)) = false := by simp; omega
    have hnn : ((n : Int) != (m : Int)) = true := by simp; omega
    clear ha hb hn hm hnm
    go_enter Try.func16, Try.ntmps16
    go_wp2
    go_ret
    exact ⟨by rw [HF.out]; rfl, Below.refl _ _⟩

theorem is_set (l : List Int) (k : Nat) (x : Int) : (is l).set k (.int .i64 x) = is (l.set k x) := by unfold is; rw [List.map_set]
theorem own_rd {w : World} {B g n e : Nat} {xs : List Value} (h : w.ownsRow B e 1 (.slice (some ⟨g, 0, none⟩) n n) n xs) : Rd w (some ⟨g, 0, none⟩) xs := by
  obtain ⟨_, _, hv1, hrd, _⟩ := Rd.of_own h
  injection hv1 with e1 e2 e3
  rw [← e1] at hrd
  exact hrd

/-- A call that hands back a vector and an error's number. -/
def RetVecE (l : List Int) (x : Int) (w : World) (e : Ending) (w' : World) : Prop := ∃ B k d, e = .returned (.tuple #[.slice B k d, .int .i64 x]) ∧ Rd w' B (is l) ∧ l.length = k ∧ Below w.heap.size w w'
theorem retE_none (x : Int) (w : World) : RetVecE [] x w (.returned (.tuple #[.slice none 0 0, .int .i64 x])) w := ⟨none, 0, 0, rfl, .inl rfl, rfl, Below.refl _ _⟩

/-- The greater of two lengths, by cases. -/
def MaxOf (n m x : Nat) : Prop := (n < m ∧ x = m) ∨ (m < n ∧ x = n) ∨ ((n ≤ m ∧ m ≤ n) ∧ x = n)
theorem maxOf (n m : Nat) : MaxOf n m (max n m) := by unfold MaxOf; omega

end Go.Proofs.Ytphnimmhjnhajaa.S5

/-
  Layer 5, walks: whether numbers may be a vector.
-/
namespace Go.Proofs.Ytphnimmhjnhajaa.S5
open Go.RowKit Go.PlainAid Go.Shelf M5
set_option linter.unusedVariables false

/-- None is below nought. -/
def fine (v : List Int) : Bool := v.all fun x => decide (0 ≤ x)
theorem fine_not {v : List Int} {k : Nat} (hk : k < v.length) (h : v.getD k 0 < 0) : fine v = false := by
  unfold fine
  rw [Bool.eq_false_iff]
  intro hall
  have := List.all_eq_true.1 hall v[k] (List.getElem_mem hk)
  rw [List.getD_eq_getElem?_getD, List.getElem?_eq_getElem hk] at h
  have h2 := of_decide_eq_true this
  simp at h
  omega
theorem fine_all {v : List Int} (h : ∀ j, j < v.length → 0 ≤ v.getD j 0) : fine v = true := by
  unfold fine
  rw [List.all_eq_true]
  intro x hx
  obtain ⟨j, hj, rfl⟩ := List.mem_iff_getElem.1 hx
  have := h j hj
  rw [List.getD_eq_getElem?_getD, List.getElem?_eq_getElem hj] at this
  exact decide_eq_true this
theorem fine_on {v : List Int} {k : Nat} (h : ∀ j, j < k → 0 ≤ v.getD j 0) (hk : 0 ≤ v.getD k 0) : ∀ j, j < k + 1 → 0 ≤ v.getD j 0 := by
  intro j hj
  by_cases e : j = k
  · rw [e]; exact hk
  · exact h j (by omega)
theorem vectorL_eq (v : List Int) : vectorL v = (decide (v.length ≤ 16) && decide (endN v v.length = v.length) && fine v) := rfl

set_option maxRecDepth 100000 in
set_option maxHeartbeats 400000 in
theorem below_any (a : Int) (w : World) : Calls Try.prog 55 #[.int .i64 a] w fun e w' => e = .returned (.bool (decide (a < 0))) ∧ w = w' := by
  by_cases h : a < 0
  all_goals
    go_enter Try.func55, Try.ntmps55
    go_wp2
    go_ret
    exact ⟨by simp [h], rfl⟩

/-- Where the first number below nought stands, or -1. -/
def RetIdx (v : List Int) (w : World) (e : Ending) (w' : World) : Prop := ∃ z : Int, e = .returned (.int .i64 z) ∧ ((fine v = true ∧ z = -1) ∨ (fine v = false ∧ 0 ≤ z)) ∧ w = w'

set_option maxRecDepth 100000 in
set_option maxHeartbeats 400000 in
theorem index_any (A : Option Addr) (n c : Nat) (v : List Int) (w : World) (hr : Rd w A (is v)) (hn : v.length = n) (hle : n ≤ 1000000000) :
    Calls Try.prog 67 #[.slice A n c, .func (.func 55) #[] #[]] w (RetIdx v w) := by
  subst hn
  have HR := Lib.hid hr
  clear hr
  go_enter Try.func67, Try.ntmps67
  go_wp2
  go_loop [5, 8] (fun _ i => ∃ k : Nat, k ≤ v.length ∧ i = .int .i64 (k : Int) ∧ Hid (∀ j, j < k → 0 ≤ v.getD j 0)) (fun _ i => v.length - (intOf i).toNat)
  case atStart => exact ⟨0, by omega, rfl, fun j h => by omega⟩
  case round =>
    obtain ⟨k, hk, rfl, HK⟩ := hrel
    by_cases hlt : k < v.length
    · obtain ⟨b, off, x, rfl, hb, hc, HX⟩ := rd_at HR.out (k := k) hlt
      by_cases hneg : x < 0
      · have HF := Lib.hid (fine_not hlt (by rw [HX.out]; exact hneg))
        have hd : decide (x < 0) = true := by simpa using hneg
        go_wp2_with fail
        refine (below_any x _).mono ?_
        rintro e w1 ⟨rfl, rfl⟩
        go_wp2
        go_ret
        exact ⟨_, rfl, .inr ⟨HF.out, by omega⟩, rfl⟩
      · have HK2 : Hid (∀ j, j < k + 1 → 0 ≤ v.getD j 0) := fine_on HK.out (by rw [HX.out]; omega)
        have hd : decide (x < 0) = false := by simpa using hneg
        go_wp2_with fail
        refine (below_any x _).mono ?_
        rintro e w1 ⟨rfl, rfl⟩
        go_wp2
        go_round
        case rel => exact ⟨k + 1, by omega, by go_num, HK2⟩
        case measure => simp [intOf]; omega
    · obtain rfl : k = v.length := by omega
      have HF := Lib.hid (fine_all HK.out)
      go_wp2
      go_ret
      exact ⟨_, rfl, .inl ⟨HF.out, rfl⟩, rfl⟩

set_option maxRecDepth 100000 in
set_option maxHeartbeats 400000 in
theorem contains_any (A : Option Addr) (n c : Nat) (v : List Int) (w : World) (hr : Rd w A (is v)) (hn : v.length = n) (hle : n ≤ 1000000000) :
    Calls Try.prog 57 #[.slice A n c, .func (.func 55) #[] #[]] w fun e w' => e = .returned (.bool (!fine v)) ∧ w = w' := by
  have HR := Lib.hid hr
  have HN := Lib.hid hn
  clear hr hn
  go_enter Try.func57, Try.ntmps57
  go_wp2_with fail
  refine (index_any A n c v _ HR.out HN.out hle).mono ?_
  rintro e w1 ⟨z, rfl, h | h, rfl⟩
  · obtain ⟨hf, rfl⟩ := h
    have HFI := Lib.hid hf
    clear hf
    go_wp2
    go_ret
    exact ⟨by rw [HFI.out]; rfl, rfl⟩
  · obtain ⟨hf, hz⟩ := h
    have HFI := Lib.hid hf
    clear hf
    go_wp2
    go_ret
    exact ⟨by rw [HFI.out]; rfl, rfl⟩

set_option maxRecDepth 100000 in
set_option maxHeartbeats 400000 in
theorem vector_any (A : Option Addr) (n c : Nat) (v : List Int) (w : World) (hr : Rd w A (is v)) (hn : v.length = n) (hle : n ≤ 1000000000) :
    Calls Try.prog 33 #[.slice A n c] w fun e w' => e = .returned (.bool (vectorL v)) ∧ w = w' := by
  subst hn
  have HR := Lib.hid hr
  have hend := endN_le v v.length
  have HV := Lib.hid (vectorL_eq v)
  obtain ⟨q, hq⟩ : ∃ q, q = endN v v.length := ⟨_, rfl⟩
  have HE : Hid (((endN v v.length : Nat) : Int) = (q : Int)) := by show _ = _; rw [hq]
  rw [← hq] at HV hend
  clear hr hq
  by_cases h1 : v.length ≤ 16
  rotate_left
  · have hd1 : decide (v.length ≤ 16) = false := by simpa using h1
    have HF : Hid (vectorL v = false) := by show _ = _; rw [HV.out, hd1]; rfl
    clear hd1
    go_enter Try.func33, Try.ntmps33
    go_wp2
    go_ret
    exact ⟨by rw [HF.out]; rfl, rfl⟩
  by_cases h2 : q = v.length
  rotate_left
  · have hd1 : decide (q = v.length) = false := by simpa using h2
    have HF : Hid (vectorL v = false) := by show _ = _; rw [HV.out, hd1]; simp
    have hqn : ((q : Int) == (v.length : Int)) = false := by simp; omega
    clear hd1 h2
    go_enter Try.func33, Try.ntmps33
    go_wp2_with fail
    refine (end_any A _ c v _ HR.out rfl hle).mono ?_
    rintro e w1 ⟨rfl, rfl⟩
    rw [HE.out]
    go_wp2
    go_ret
    exact ⟨by rw [HF.out]; rfl, rfl⟩
  have HF : Hid (vectorL v = fine v) := by show _ = _; rw [HV.out, decide_eq_true h1, decide_eq_true h2]; rfl
  have HE2 : Hid (((endN v v.length : Nat) : Int) = (v.length : Int)) := by show _ = _; rw [HE.out, h2]
  clear h2
  cases hf : fine v
  all_goals
    have HFI := Lib.hid hf
    clear hf
    go_enter Try.func33, Try.ntmps33
    go_wp2_with fail
    refine (end_any A _ c v _ HR.out rfl hle).mono ?_
    rintro e w1 ⟨rfl, rfl⟩
    rw [HE2.out]
    go_wp2_with fail
    refine (contains_any A _ c v _ HR.out rfl hle).mono ?_
    rintro e w1 ⟨rfl, rfl⟩
    rw [HFI.out]
    go_wp2
    go_ret
    exact ⟨by rw [HF.out, HFI.out]; rfl, rfl⟩

theorem plain_same (v : List Int) : decide (v = plainL v) = decide (endN v v.length = v.length) := by
  rw [decide_eq_decide]
  constructor
  · intro h; have := congrArg List.length h; rw [plainL_len] at this; exact this.symm
  · intro h; unfold plainL; rw [h, List.take_length]

end Go.Proofs.Ytphnimmhjnhajaa.S5

/-
  Layer 5, walks: how ids stand to one another, and whether they are right.
-/
namespace Go.Proofs.Ytphnimmhjnhajaa.S5
open Go.RowKit Go.PlainAid Go.Shelf M5
set_option linter.unusedVariables false

def stV (t r : Int) : Value := .agg #[.int .i64 t, .int .i64 r]
def idV (t r i : Int) : Value := .agg #[.int .i64 t, .int .i64 r, .int .i64 i]
theorem below_drew1 {B : Nat} {a w : World} (h : Below B a.drew w) : Below B a w := ⟨h.os, h.tape, h.output, h.size, h.block⟩

set_option maxRecDepth 100000 in
set_option maxHeartbeats 400000 in
theorem compare_any (a b : Int) (w : World) : Calls Try.prog 62 #[.int .i64 a, .int .i64 b] w fun e w' => e = .returned (.int .i64 (cmpI a b)) ∧ w = w' := by
  have ha : (a != a) = false := by simp
  have hb : (b != b) = false := by simp
  rcases cmpI_cases a b with ⟨h, hc⟩ | ⟨h, hc⟩ | ⟨h, hc⟩
  · have HF := Lib.hid hc
    clear hc
    go_enter Try.func62, Try.ntmps62
    go_wp2
    go_ret
    exact ⟨by rw [HF.out]; rfl, rfl⟩
  · have HF := Lib.hid hc
    clear hc
    go_enter Try.func62, Try.ntmps62
    go_wp2
    go_ret
    exact ⟨by rw [HF.out]; rfl, rfl⟩
  · have HF := Lib.hid hc
    clear hc
    subst h
    go_enter Try.func62, Try.ntmps62
    go_wp2
    go_ret
    exact ⟨by rw [HF.out]; rfl, rfl⟩

set_option maxRecDepth 100000 in
set_option maxHeartbeats 400000 in
theorem or_any (A : Option Addr) (n c : Nat) (v : List Int) (w : World) (hr : Rd w A (is v)) (hn : v.length = n) (hle : n ≤ 1000000000) :
    Calls Try.prog 61 #[.slice A n c] w fun e w' => e = .returned (.int .i64 (orL v)) ∧ w = w' := by
  subst hn
  have HR := Lib.hid hr
  clear hr
  go_enter Try.func61, Try.ntmps61
  go_wp2
  go_loop [5, 8] (fun _ i => ∃ k : Nat, k ≤ v.length ∧ i = .int .i64 (k : Int) ∧ Hid (∀ j, j < k → v.getD j 0 = 0)) (fun _ i => v.length - (intOf i).toNat)
  case atStart => exact ⟨0, by omega, rfl, fun j h => by omega⟩
  case round =>
    obtain ⟨k, hk, rfl, HK⟩ := hrel
    by_cases hlt : k < v.length
    · obtain ⟨b, off, x, rfl, hb, hc, HX⟩ := rd_at HR.out (k := k) hlt
      by_cases h0 : x = 0
      · subst h0
        have HK2 : Hid (∀ j, j < k + 1 → v.getD j 0 = 0) := nought_on HK.out HX.out
        go_wp2
        go_round
        case rel => exact ⟨k + 1, by omega, by go_num, HK2⟩
        case measure => simp [intOf]; omega
      · have HF : Hid (orL v = x) := by show _ = _; rw [orL_at HK.out (by rw [HX.out]; exact h0), HX.out]
        have hne : (x != 0) = true := by simpa using h0
        have hne2 : (x == 0) = false := by simpa using h0
        clear h0
        go_wp2
        go_ret
        exact ⟨by rw [HF.out]; rfl, rfl⟩
    · obtain rfl : k = v.length := by omega
      have HF := Lib.hid (orL_none HK.out)
      go_wp2
      go_ret
      exact ⟨by rw [HF.out]; rfl, rfl⟩

theorem or_two (g : Nat) (c : Nat) (a b : Int) (w : World) (h : Rd w (some ⟨g, 0, none⟩) [.int .i64 a, .int .i64 b]) :
    Calls Try.prog 61 #[.slice (some ⟨g, 0, none⟩) 2 c] w fun e w' => e = .returned (.int .i64 (orI a b)) ∧ w = w' := by
  have := or_any (some ⟨g, 0, none⟩) 2 c [a, b] w h rfl (by omega)
  rw [orL_two] at this
  exact this

theorem or_new (W : World) (g c e : Nat) (a b : Int) (hg : g = W.heap.size) :
    Calls Try.prog 61 #[.slice (some ⟨g, 0, none⟩) 2 c] ((W.alloc (.cells #[.int .i64 a, .int .i64 b] e)).drew) fun x w' => x = .returned (.int .i64 (orI a b)) ∧ ((W.alloc (.cells #[.int .i64 a, .int .i64 b] e)).drew) = w' := by
  subst hg
  refine or_two _ c a b _ ?_
  have ho := World.ownsRow_lit (base := W.heap.size) (size := 1) (e := e) W #[.int .i64 a, .int .i64 b] 2 (Nat.le_refl _) (by unfold maxLen; omega) rfl
  exact own_rd ho

theorem compare_q (a b : Int) (w : World) : Calls Try.prog 62 #[.int .i64 a, .int .i64 b] w fun e w' => e = .returned (.int .i64 (cmpI a b)) ∧ w' = w := (compare_any a b w).mono fun _ _ h => ⟨h.1, h.2.symm⟩
theorem still_tail {id : Nat} {P : Program} {Q : Exit → Act → World → Prop} {a : Act} {w : World} {l : List Oper} (n : Nat) (hm : P.follows .mixedOrders = true) (hB : Region.lexTailB .any l.toArray n = true)
    (h : wpStill P l.toArray w.drew (fun a' => wpList P l.toArray Q (l.drop n) a' w.drew) (l.take n) a) : (Code.region id l.toArray true).wp P Q a w := wp_region_still_tail n hm hB h
theorem mixed : Try.prog.follows .mixedOrders = true := by kernel_rfl

set_option maxRecDepth 100000 in
set_option maxHeartbeats 400000 in
theorem cmp_any (t r t' r' : Int) (w : World) : Calls Try.prog 36 #[.agg #[.int .i64 t, .int .i64 r], .agg #[.int .i64 t', .int .i64 r']] w fun e w' => e = .returned (.int .i64 (cmpS t r t' r')) ∧ Below w.heap.size w w' := by
  have HF : Hid (orI (cmpI t t') (cmpI r r') = cmpS t r t' r') := rfl
  go_enter Try.func36, Try.ntmps36
  go_wp2
  refine still_tail 10 mixed (by kernel_rfl) ?_
  simp only [List.take_succ_cons, List.take_zero, List.drop_succ_cons, List.drop_zero]
  repeat still_step
  still_call (compare_q _ _ _)
  repeat still_step
  still_call (compare_q _ _ _)
  refine wpStill_nil ?_
  go_wp2_with fail
  (with_reducible refine (or_new _ _ _ _ _ _ ?h1).mono ?_)
  case h1 => simp
  rintro e w3 ⟨rfl, rfl⟩
  rw [HF.out]
  go_wp2
  go_ret
  exact ⟨rfl, ((((Below.refl _ _).alloc (Nat.le_refl _) _).alloc (by simp) _).alloc (by simp; omega) _).drew⟩

theorem or_made (W : World) (g c e : Nat) (a b : Int) (hg : g = W.heap.size) :
    Calls Try.prog 61 #[.slice (some ⟨g, 0, none⟩) 2 c] (W.alloc (.cells #[.int .i64 a, .int .i64 b] e)) fun x w' => x = .returned (.int .i64 (orI a b)) ∧ (W.alloc (.cells #[.int .i64 a, .int .i64 b] e)) = w' := by
  subst hg
  refine or_two _ c a b _ ?_
  have ho := World.ownsRow_lit (base := W.heap.size) (size := 1) (e := e) W #[.int .i64 a, .int .i64 b] 2 (Nat.le_refl _) (by unfold maxLen; omega) rfl
  exact own_rd ho

set_option maxRecDepth 100000 in
set_option maxHeartbeats 2000000 in
theorem cmpId_any (t r i t' r' i' : Int) (w : World) : Calls Try.prog 77 #[.agg #[.int .i64 t, .int .i64 r, .int .i64 i], .agg #[.int .i64 t', .int .i64 r', .int .i64 i']] w fun e w' => e = .returned (.int .i64 (cmpD t r i t' r' i')) ∧ Below w.heap.size w w' := by
  have HF : Hid (orI (cmpS t r t' r') (cmpI i i') = cmpD t r i t' r' i') := rfl
  go_enter Try.func77, Try.ntmps77
  go_wp2
  go_region_held3 (fun w' => w'.cell? ⟨w.heap.size, 0, none⟩ = some (.int .i64 t) ∧ w'.cell? ⟨w.heap.size, 1, none⟩ = some (.int .i64 r) ∧ w'.cell? ⟨w.heap.size, 2, none⟩ = some (.int .i64 i) ∧ w'.cell? ⟨w.heap.size + 1, 0, none⟩ = some (.int .i64 t') ∧ w'.cell? ⟨w.heap.size + 1, 1, none⟩ = some (.int .i64 r') ∧ w'.cell? ⟨w.heap.size + 1, 2, none⟩ = some (.int .i64 i'))
    (first | go_keep)
    (first
      | (go_at_call 36; (with_reducible refine (cmp_any _ _ _ _ _).mono ?_); rintro e w3 ⟨rfl, hb3⟩; have q := fun (b o : Nat) (h : b < w.heap.size + 2) => hb3.cell (p := ⟨b, o, none⟩) (show b < _ by simp; omega); have q0 := q w.heap.size 0 (by omega); have q1 := q w.heap.size 1 (by omega); have q2 := q w.heap.size 2 (by omega); have q3 := q (w.heap.size + 1) 0 (by omega); have q4 := q (w.heap.size + 1) 1 (by omega); have q5 := q (w.heap.size + 1) 2 (by omega); clear q; simp at q0 q1 q2 q3 q4 q5)
      | (go_at_call 62; (with_reducible refine (compare_any _ _ _).mono ?_); rintro e w4 ⟨rfl, rfl⟩)
      | (go_at_call 61; (with_reducible refine (or_made _ _ _ _ _ _ ?h1).mono ?_); (case h1 => simp); rintro e w5 ⟨rfl, rfl⟩))
  have hb4 : Below w.heap.size w w3 := (((Below.refl _ _).alloc (Nat.le_refl _) _).alloc (by simp) _).drew.trans (hb3.mono (by simp; omega))
  clear q0 q1 q2 q3 q4 q5
  go_wp2
  go_ret
  exact ⟨by rw [← HF.out]; rfl, hb4.alloc hb4.size _⟩

theorem bcell {W w1 : World} {B : Nat} (hb : Below B W w1) {b o : Nat} (h : b < B) {v : Value} (hc : W.cell? ⟨b, o, none⟩ = some v) : w1.cell? ⟨b, o, none⟩ = some v := (hb.cell (p := ⟨b, o, none⟩) h).trans hc
theorem new2 (w : World) (o o' : Obj) : Below w.heap.size w ((w.alloc o).alloc o') := ((Below.refl _ _).alloc (Nat.le_refl _) _).alloc (by simp) _
theorem chain {w a b : World} (h : Below w.heap.size w a) (k : Below a.heap.size a b) : Below w.heap.size w b := h.trans (k.mono h.size)

end Go.Proofs.Ytphnimmhjnhajaa.S5

/-
  Layer 5, walks: whether ids are right.
-/
namespace Go.Proofs.Ytphnimmhjnhajaa.S5
open Go.RowKit Go.PlainAid Go.Shelf M5
set_option linter.unusedVariables false

theorem right_no {t r : Int} (h : ¬ (1 ≤ t ∧ t ≤ 1099511627776 ∧ 1 ≤ r ∧ r ≤ 16)) : right t r = false := by
  rw [Bool.eq_false_iff]; exact fun hr => h (right_iff.1 hr)
theorem rightId_eq (t r i : Int) : rightId t r i = (right t r && decide (0 ≤ i ∧ i ≤ 400000)) := by
  rw [Bool.eq_iff_iff, rightId_iff, Bool.and_eq_true, right_iff, decide_eq_true_iff]
  omega
theorem new1 (w : World) (o : Obj) : Below w.heap.size w (w.alloc o) := (Below.refl _ _).alloc (Nat.le_refl _) _

set_option maxRecDepth 100000 in
set_option maxHeartbeats 400000 in
theorem right_any (t r : Int) (w : World) : Calls Try.prog 32 #[.agg #[.int .i64 t, .int .i64 r]] w fun e w' => e = .returned (.bool (right t r)) ∧ Below w.heap.size w w' := by
  by_cases h0 : 1 ≤ t
  rotate_left
  · have HF := Lib.hid (right_no (t := t) (r := r) (by omega))
    have hn : t < 1 := by omega
    have hd : decide (1 ≤ t) = false := by simp; omega
    clear h0
    go_enter Try.func32, Try.ntmps32
    go_wp2
    go_ret
    exact ⟨by rw [HF.out]; rfl, new1 _ _⟩
  by_cases h1 : t ≤ 1099511627776
  rotate_left
  · have HF := Lib.hid (right_no (t := t) (r := r) (by omega))
    have hn : 1099511627776 < t := by omega
    have hd : decide (t ≤ 1099511627776) = false := by simp; omega
    clear h1
    go_enter Try.func32, Try.ntmps32
    go_wp2
    go_ret
    exact ⟨by rw [HF.out]; rfl, new1 _ _⟩
  by_cases h2 : 1 ≤ r
  rotate_left
  · have HF := Lib.hid (right_no (t := t) (r := r) (by omega))
    have hn : r < 1 := by omega
    have hd : decide (1 ≤ r) = false := by simp; omega
    clear h2
    go_enter Try.func32, Try.ntmps32
    go_wp2
    go_ret
    exact ⟨by rw [HF.out]; rfl, new1 _ _⟩
  by_cases h3 : r ≤ 16
  rotate_left
  · have HF := Lib.hid (right_no (t := t) (r := r) (by omega))
    have hn : 16 < r := by omega
    have hd : decide (r ≤ 16) = false := by simp; omega
    clear h3
    go_enter Try.func32, Try.ntmps32
    go_wp2
    go_ret
    exact ⟨by rw [HF.out]; rfl, new1 _ _⟩
  have HF := Lib.hid (right_iff.2 ⟨h0, h1, h2, h3⟩)
  go_enter Try.func32, Try.ntmps32
  go_wp2
  go_ret
  exact ⟨by rw [HF.out]; rfl, new1 _ _⟩

set_option maxRecDepth 100000 in
set_option maxHeartbeats 400000 in
theorem rightId_any (t r i : Int) (w : World) : Calls Try.prog 76 #[.agg #[.int .i64 t, .int .i64 r, .int .i64 i]] w fun e w' => e = .returned (.bool (rightId t r i)) ∧ Below w.heap.size w w' := by
  have hq := rightId_eq t r i
  cases hr : right t r
  · rw [hr] at hq
    have HR := Lib.hid hr
    have HF : Hid (rightId t r i = false) := hq
    clear hr hq
    go_enter Try.func76, Try.ntmps76
    go_wp2_with fail
    refine (right_any _ _ _).mono ?_
    rintro e w1 ⟨rfl, hb1⟩
    rw [HR.out]
    have hb := chain (new1 w _) hb1
    clear hb1
    go_wp2
    go_ret
    exact ⟨by rw [HF.out]; rfl, hb⟩
  · rw [hr, Bool.true_and] at hq
    have HR := Lib.hid hr
    clear hr
    by_cases h0 : 0 ≤ i
    rotate_left
    · have HF : Hid (rightId t r i = false) := by show _ = _; rw [hq]; simp; omega
      have hd : decide (0 ≤ i) = false := by simp; omega
      clear hq h0
      go_enter Try.func76, Try.ntmps76
      go_wp2_with fail
      refine (right_any _ _ _).mono ?_
      rintro e w1 ⟨rfl, hb1⟩
      rw [HR.out]
      have q0 : w1.cell? ⟨w.heap.size, 2, none⟩ = some (.int .i64 i) := bcell hb1 (by simp) (by simp)
      have hb := chain (new1 w _) hb1
      clear hb1
      go_wp2
      go_ret
      exact ⟨by rw [HF.out]; rfl, hb⟩
    by_cases h1 : i ≤ 400000
    · have HF : Hid (rightId t r i = true) := by show _ = _; rw [hq]; simp; omega
      have hd : decide (0 ≤ i) = true := by simp; omega
      have hd2 : decide (i ≤ 400000) = true := by simp; omega
      clear hq
      go_enter Try.func76, Try.ntmps76
      go_wp2_with fail
      refine (right_any _ _ _).mono ?_
      rintro e w1 ⟨rfl, hb1⟩
      rw [HR.out]
      have q0 : w1.cell? ⟨w.heap.size, 2, none⟩ = some (.int .i64 i) := bcell hb1 (by simp) (by simp)
      have hb := chain (new1 w _) hb1
      clear hb1
      go_wp2
      go_ret
      exact ⟨by rw [HF.out]; rfl, hb⟩
    · have HF : Hid (rightId t r i = false) := by show _ = _; rw [hq]; simp; omega
      have hd : decide (0 ≤ i) = true := by simp; omega
      have hd2 : decide (i ≤ 400000) = false := by simp; omega
      have hn : 400000 < i := by omega
      clear hq h1
      go_enter Try.func76, Try.ntmps76
      go_wp2_with fail
      refine (right_any _ _ _).mono ?_
      rintro e w1 ⟨rfl, hb1⟩
      rw [HR.out]
      have q0 : w1.cell? ⟨w.heap.size, 2, none⟩ = some (.int .i64 i) := bcell hb1 (by simp) (by simp)
      have hb := chain (new1 w _) hb1
      clear hb1
      go_wp2
      go_ret
      exact ⟨by rw [HF.out]; rfl, hb⟩

end Go.Proofs.Ytphnimmhjnhajaa.S5

/-
  Layer 1, walks: appendNat puts the bytes of a number behind a row of the call's own.
-/
namespace Go.Proofs.Ytphnimmhjnhajaa.V1
open Go.RowKit

theorem byte_hi (m : Nat) : (Value.int .u8 ((m : Int) % 128 + 128)) = Value.int .u8 (UInt8.ofNat (m % 128 + 128)).toNat := by
  rw [toNat_ofNat (by omega)]; simp
theorem byte_lo {m : Nat} (h : m < 128) : (Value.int .u8 (m : Int)) = Value.int .u8 (UInt8.ofNat m).toNat := by
  rw [toNat_ofNat (by omega)]

/-- WHAT THE LOOP OF appendNat KEEPS. -/
def AppRel (B k : Nat) (xs : List Value) (n : Nat) (w : World) (v i : Value) (wr : World) : Prop :=
  ∃ m k' xs', i = .int .i64 ((m : Nat) : Int) ∧ m ≤ n ∧ xs' ++ u8s (natB m) = xs ++ u8s (natB n) ∧ wr.ownsRow B 5 1 v k' xs' ∧ k' + (natB m).length = k + (natB n).length ∧ Below B w wr

theorem AppRel.step {B k n : Nat} {xs : List Value} {w wr w1 : World} {v v1 : Value} {m k' : Nat} {xs' : List Value} (h128 : 128 ≤ m) (hmn : m ≤ n)
    (hx : xs' ++ u8s (natB m) = xs ++ u8s (natB n)) (hk : k' + (natB m).length = k + (natB n).length) (hb : Below B w wr) (hB : B ≤ wr.heap.size)
    (hown : wr.ownsRow B 5 1 v k' xs') (ho : w1.ownsRow B 5 1 v1 (k' + 1) (xs' ++ [Value.int .u8 ((m : Int) % 128 + 128)])) (o : Obj) (hg : (wr.alloc o).grownBy w1 v.ownBlock) :
    AppRel B k xs n w v1 (.int .i64 ((m : Int) / 128)) w1 := by
  refine ⟨m / 128, k' + 1, _, by simp, by omega, ?_, ho, ?_, ?_⟩
  · rw [← hx, natB_step h128, byte_hi, u8s_cons]; simp
  · rw [← hk, natB_step h128]; simp; omega
  · exact (hb.alloc hB o).grown hg (by simp; omega) (fun q hq => (hown.lt q hq).1)

set_option maxRecDepth 100000 in
set_option maxHeartbeats 400000 in
theorem appendNat_any (B : Nat) (v : Value) (k : Nat) (xs : List Value) (n : Nat) (w : World) (hown : w.ownsRow B 5 1 v k xs) (hB : B ≤ w.heap.size)
    (hn : n ≤ 9223372036854775807) (hk : k ≤ 70368744177664) :
    Calls Try.prog 63 #[v, .int .i64 (n : Int)] w fun e w' => ∃ v', e = .returned v' ∧ w'.ownsRow B 5 1 v' (k + (natB n).length) (xs ++ u8s (natB n)) ∧ Below B w w' := by
  obtain ⟨i0, hi0, hz0, hz1, hz2⟩ := info_parts info_u8
  have h0 : AppRel B k xs n w v (.int .i64 (n : Int)) w := ⟨n, k, xs, rfl, Nat.le_refl _, rfl, hown, rfl, Below.refl _ _⟩
  have H0 := Lib.hid h0
  clear h0 hown
  go_enter Try.func63, Try.ntmps63
  go_wp2
  go_loopw [0, 1] (fun v i wr => AppRel B k xs n w v i wr) (fun _ i _ => (intOf i).toNat)
  case atStart => exact H0.out
  case round =>
    obtain ⟨m, k', xs', rfl, hmn, hx, ho, hl, hbw⟩ := hrel
    have hB' : B ≤ wr.heap.size := Nat.le_trans hB hbw.size
    have hl9 := natB_len9 (n := n) hn
    have HX := Lib.hid hx
    have HL := Lib.hid hl
    have hk' : k' ≤ k + 9 := by omega
    clear hx hl hl9 H0
    by_cases h128 : 128 ≤ m
    · go_wp2_with (at_builtin; refine wpList_append_own _ rfl (.tmp 9) (.tmp 14) 48 rfl B 5 i0 (.int .u8 0) 1 1 Try.underlying48 hi0 hz0 hz1 hz2 rfl (by decide) _ _ _ rfl (ho.alloc _) ⟨wr.heap.size, 0, none⟩ 1 1 [.int .u8 ((m : Int) % 128 + 128)] rfl rfl ?c1 ?c2 ?c3 ?c4 ?c5 ?_)
      case c1 => exact cell_one_new _ _ _
      case c2 => simp [Value.oneCell']
      case c3 => unfold maxLen; omega
      case c4 => omega
      case c5 => simp; omega
      intro v1 w1 hown1 hg1 _
      go_wp2
      go_roundw
      case rel => exact AppRel.step h128 hmn HX.out HL.out hbw hB' ho hown1 _ hg1
      case measure => simp [intOf]; omega
    · have hm1 : (natB m).length = 1 := by rw [natB_small (by omega)]; rfl
      have HM := Lib.hid hm1
      clear hm1
      go_wp2_with (at_builtin; refine wpList_append_own _ rfl (.tmp 16) (.tmp 19) 48 rfl B 5 i0 (.int .u8 0) 1 1 Try.underlying48 hi0 hz0 hz1 hz2 rfl (by decide) _ _ _ rfl (ho.alloc _) ⟨wr.heap.size, 0, none⟩ 1 1 [.int .u8 (m : Int)] rfl rfl ?c1 ?c2 ?c3 ?c4 ?c5 ?_)
      case c1 => exact cell_one_new _ _ _
      case c2 => simp [Value.oneCell']
      case c3 => unfold maxLen; omega
      case c4 => omega
      case c5 => simp; omega
      intro v1 w1 hown1 hg1 _
      go_wp2
      go_ret
      refine ⟨v1, rfl, ?_, (hbw.alloc hB' _).grown hg1 (by simp; omega) (fun q hq => (ho.lt q hq).1)⟩
      have e1 := HX.out
      have e2 := HL.out
      rw [natB_small (show m < 128 by omega)] at e1 e2
      rw [byte_lo (show m < 128 by omega)] at hown1
      rw [← e1, ← e2]
      exact hown1

end Go.Proofs.Ytphnimmhjnhajaa.V1

/-
  Layer 1, walks: Nat of the program and of the document.
-/
namespace Go.Proofs.Ytphnimmhjnhajaa.V1
open Go.RowKit

/-- A1's answer. -/
def natR (n : Int) : List UInt8 × Int := if n < 0 then ([], 1) else (natB n.toNat, 0)

set_option maxRecDepth 100000 in
set_option maxHeartbeats 400000 in
theorem nat_any (n : Int) (hn : n ≤ 9223372036854775807) (w : World) :
    Calls Try.prog 37 #[.int .i64 n] w fun e w' => e = .returned (.tuple #[.string (bs (natR n).1), .int .i64 (natR n).2]) ∧ Below w.heap.size w w' := by
  by_cases h0 : n < 0
  · have hfin : natR n = ([], 1) := by unfold natR; rw [if_pos h0]
    have HF := Lib.hid hfin
    clear hfin
    go_enter Try.func37, Try.ntmps37
    go_wp2
    go_ret2
    exact ⟨by rw [HF.out]; rfl, Below.refl _ _⟩
  · obtain ⟨m, rfl⟩ := Int.eq_ofNat_of_zero_le (show 0 ≤ n by omega)
    have hfin : natR (m : Int) = (natB m, 0) := by unfold natR; rw [if_neg h0]; simp
    have HF := Lib.hid hfin
    clear hfin
    go_enter Try.func37, Try.ntmps37
    go_wp2_with fail
    refine (appendNat_any w.heap.size _ 0 [] m _ (World.ownsRow_nil _ _ _ _) (Nat.le_refl _) (by omega) (by omega)).mono ?_
    rintro e w1 ⟨v1, rfl, ho, hb⟩
    rw [List.nil_append] at ho
    have hcv := own_string ho
    go_wp2
    go_ret2
    exact ⟨by rw [HF.out]; rfl, hb⟩

theorem byte_hi' (m : Nat) : (Value.int .u8 (128 + (m : Int) % 128)) = Value.int .u8 ((m : Int) % 128 + 128) := by
  rw [Int.add_comm]

end Go.Proofs.Ytphnimmhjnhajaa.V1

/-
  Layer 7, walks: names.
-/
namespace Go.Proofs.Ytphnimmhjnhajaa.P7
open Go.RowKit Go.PlainAid M7
set_option linter.unusedVariables false

theorem bs_toList (l : List UInt8) : (bs l).toList = l := by rw [ByteArray.toList_eq]; rfl
theorem bs_inj {a b : List UInt8} (h : bs a = bs b) : a = b := by rw [← bs_list a, h, bs_list]
theorem ret1b {a b : Bool} (h : a = b) : Ending.returned (.bool a) = Ending.returned (.bool b) := by rw [h]
theorem chain {w a b : World} (h : Below w.heap.size w a) (k : Below a.heap.size a b) : Below w.heap.size w b := h.trans (k.mono h.size)

/-- The iterator stands there. -/
def It (wr : World) (B : Nat) (l : List UInt8) (pos : Nat) : Prop := wr.heap[B]? = some (.stringIter (bs l) pos)
theorem It.moved {wr : World} {B : Nat} {l : List UInt8} {pos : Nat} (h : It wr B l pos) (p : Nat) : It (wr.iterAt B (bs l) p) B l p := Lib.iterAt_heap _ _ _ _ _ h
theorem It.pos {wr : World} {B : Nat} {l : List UInt8} {pos : Nat} (h : It wr B l pos) : wr.iterPos B = pos := by unfold World.iterPos; rw [show wr.heap[B]? = _ from h]
theorem It.new (w : World) (l : List UInt8) : It (w.iter (bs l) 0) w.heap.size l 0 := World.iter_heap w _ 0
theorem It.next {P : Program} {wr : World} {B : Nat} {l : List UInt8} {pos : Nat} (h : It wr B l pos) (hp : pos < l.length) {c n : Nat} (hd : Utf8.decode (bs l) pos = (c, n)) (ty : TypeId) :
    (Instr.next (.pointer (some ⟨B, 0, none⟩)) true ty).run P wr = .ok (.tuple #[.bool true, .int .i64 (pos : Int), .int .i32 (c : Int)]) (wr.iterAt B (bs l) (pos + n)) := by
  have := Lib.run_next_any_at (P := P) wr B (bs l) pos ty h (by rw [bs_size]; exact hp)
  rw [hd] at this
  exact this
theorem It.done {P : Program} {wr : World} {B : Nat} {l : List UInt8} {pos : Nat} (h : It wr B l pos) (hp : l.length ≤ pos) (ty : TypeId) :
    (Instr.next (.pointer (some ⟨B, 0, none⟩)) true ty).run P wr = .ok (.tuple #[.bool false]) wr :=
  Lib.run_next_end_at wr B (bs l) pos ty h (by rw [bs_size]; omega)
theorem below_iter (w : World) (l : List UInt8) : Below w.heap.size w (w.iter (bs l) 0) := (Below.refl _ w).alloc (Nat.le_refl _) _

theorem signs_dec : ∀ k : Fin 65, Utf8.decode (bs signs) k.val = ((signs.getD k.val 0).toNat, 1) := by decide +kernel
theorem signs_len : signs.length = 65 := by decide +kernel

/-- None of the first k signs. -/
def none_of (c : UInt8) (k : Nat) : Prop := ∀ j, j < k → signs.getD j 0 ≠ c
theorem getD_get {l : List UInt8} {k : Nat} (h : k < l.length) : l.getD k 0 = l[k] := by simp [List.getD, List.getElem?_eq_getElem h]
theorem bt_bs (l : List UInt8) (k : Nat) (h : k < l.length) : bt (bs l) k = ((l[k]).toNat : Int) := by
  unfold bt; rw [dif_pos (by rw [bs_size]; exact h)]; rfl
theorem sign_at {c : UInt8} {k : Nat} (hk : k < 65) (h : signs.getD k 0 = c) : sign c = true := by
  unfold sign
  rw [List.contains_iff_mem]
  have hl : k < signs.length := by rw [signs_len]; exact hk
  rw [← h, getD_get hl]
  exact List.getElem_mem hl
theorem sign_none {c : UInt8} (h : none_of c 65) : sign c = false := by
  cases hs : sign c with
  | false => rfl
  | true =>
    unfold sign at hs
    rw [List.contains_iff_mem] at hs
    obtain ⟨k, hk, hkc⟩ := List.getElem_of_mem hs
    rw [signs_len] at hk
    refine absurd ?_ (h k hk)
    rw [getD_get (by rw [signs_len]; exact hk)]
    exact hkc
theorem cell_iterAt {wr : World} {B b : Nat} {l : List UInt8} {p : Nat} {v : Value} (hb : b ≠ B) (h : wr.cell? ⟨b, 0, none⟩ = some v) : (wr.iterAt B (bs l) p).cell? ⟨b, 0, none⟩ = some v := by
  show (World.putObj wr B (.stringIter (bs l) p)).cell? _ = _
  rw [← h]
  unfold World.cell?
  rw [World.putObj_heap_other hb]

set_option maxRecDepth 100000 in
set_option maxHeartbeats 400000 in
/-- The closure: the bytes of names looked up. -/
theorem signC_any (B : Nat) (l : List UInt8) (k : Nat) (hk : k < l.length) (hz : l.length ≤ 140737488351232) (w : World) (hc : w.cell? ⟨B, 0, none⟩ = some (.string (bs l))) (hB : B < w.heap.size) :
    Calls Try.prog 75 #[.int .i64 (k : Int), .pointer (some ⟨B, 0, none⟩)] w fun e w' => e = .returned (.bool (sign l[k])) ∧ Below w.heap.size w w' := by
  have hbt := bt_bs l k hk
  have hks : k < (bs l).size := by rw [bs_size]; exact hk
  have H0 : It (w.iter (bs signs) 0) w.heap.size signs 0 := It.new w signs
  have HB0 := below_iter w signs
  have HC := Lib.hid hc
  have HH0 := Lib.hid H0
  have HHB0 := Lib.hid HB0
  clear hc H0 HB0
  generalize l[k] = x at hbt ⊢
  have HBT := Lib.hid hbt
  clear hbt
  have hw32 : wrap32 (x.toNat : Int) = (x.toNat : Int) := by have := x.toNat_lt; unfold wrap32; omega
  go_enter Try.func75, Try.ntmps75
  go_wp2
  go_loopw [5] (fun v wr => ∃ j : Nat, j ≤ 65 ∧ It wr w.heap.size signs j ∧ none_of x j ∧ Below w.heap.size w wr) (fun _ wr => 65 - wr.iterPos w.heap.size)
  case atStart => exact ⟨0, by omega, HH0.out, fun j hj => absurd hj (by omega), HHB0.out⟩
  case round =>
    obtain ⟨j, hj, hit, hno, hb⟩ := hrel
    by_cases hlt : j < 65
    · have hd := signs_dec ⟨j, hlt⟩
      have hnx := fun ty => hit.next (P := Try.prog) (by rw [signs_len]; exact hlt) hd ty
      have hit1 := hit.moved (j + 1)
      have hb1 := Lib.below_iterAt hb (Nat.le_refl _) (bs signs) (j + 1)
      have hc1 := cell_iterAt (l := signs) (p := j + 1) (Nat.ne_of_lt hB) ((hb.cell (p := ⟨B, 0, none⟩) hB).trans HC.out)
      have hp := hit.pos
      clear hit hb hd
      generalize hx : signs.getD j 0 = y at hnx
      generalize wr.iterAt w.heap.size (bs signs) (j + 1) = W1 at hnx hit1 hb1 hc1
      by_cases he : y = x
      · have hs : sign x = true := sign_at hlt (hx.trans he)
        have hq : ((y.toNat : Int) == (x.toNat : Int)) = true := by rw [he]; simp
        clear hx hno
        have HB1 := HBT.out
        have hgb := get_bt (bs l)
        go_wp2
        go_ret
        exact ⟨by rw [hs]; rfl, hb1⟩
      · have hq : ((y.toNat : Int) == (x.toNat : Int)) = false := by
          simp only [beq_eq_false_iff_ne, ne_eq]
          intro h
          exact he (UInt8.toNat_inj.1 (by omega))
        have hno1 : none_of x (j + 1) := fun i hi => by
          by_cases h2 : i < j
          · exact hno i h2
          · obtain rfl : i = j := by omega
            rw [hx]; exact he
        clear hx hno he
        have HB1 := HBT.out
        have hgb := get_bt (bs l)
        go_wp2
        go_roundw
        case rel => exact ⟨j + 1, by omega, hit1, hno1, hb1⟩
        case measure => rw [hp, hit1.pos]; omega
    · obtain rfl : j = 65 := by omega
      have hs := sign_none hno
      have hnx := fun ty => hit.done (P := Try.prog) (by rw [signs_len]; exact Nat.le_refl _) ty
      go_wp2
      go_ret
      exact ⟨by rw [hs]; rfl, hb⟩

theorem below_box {w : World} (o : Obj) : Below w.heap.size w (w.alloc o) := (Below.refl _ _).alloc (Nat.le_refl _) _
/-- The four tests at the head of Name, as the walk asks them. -/
def Tests (l : List UInt8) (a b c d : Bool) : Prop := (bs l).toList.isEmpty = a ∧ decide (32 < ((bs l).size : Int)) = b ∧ ((bs l).toList == [46]) = c ∧ ((bs l).toList == [46, 46]) = d
theorem tests (l : List UInt8) : Tests l (decide (l = [])) (decide (32 < l.length)) (decide (l = [46])) (decide (l = [46, 46])) := by
  refine ⟨?_, ?_, ?_, ?_⟩
  · rw [bs_toList]; cases l <;> simp
  · rw [bs_size, Bool.eq_iff_iff]; simp only [decide_eq_true_eq]; omega
  · rw [bs_toList, Bool.eq_iff_iff]; simp
  · rw [bs_toList, Bool.eq_iff_iff]; simp

set_option maxRecDepth 100000 in
set_option maxHeartbeats 400000 in
theorem name_bad (l : List UInt8) (a b c d : Bool) (ht : Tests l a b c d) (h : a = true ∨ b = true ∨ c = true ∨ d = true) (w : World) :
    Calls Try.prog 69 #[.string (bs l)] w fun e w' => e = .returned (.bool false) ∧ Below w.heap.size w w' := by
  have HB := Lib.hid (below_box (w := w) (.cells #[.string (bs l)] 9))
  obtain ⟨h1, h2, h3, h4⟩ := ht
  cases a
  · cases b
    · cases c
      · cases d
        · simp at h
        · clear h
          go_enter Try.func69, Try.ntmps69
          go_wp2
          go_ret
          exact ⟨rfl, HB.out⟩
      · clear h
        go_enter Try.func69, Try.ntmps69
        go_wp2
        go_ret
        exact ⟨rfl, HB.out⟩
    · clear h
      go_enter Try.func69, Try.ntmps69
      go_wp2
      go_ret
      exact ⟨rfl, HB.out⟩
  · clear h
    go_enter Try.func69, Try.ntmps69
    go_wp2
    go_ret
    exact ⟨rfl, HB.out⟩

def Signs (l : List UInt8) (k : Nat) : Prop := ∀ j (hj : j < l.length), j < k → sign l[j] = true

set_option maxRecDepth 100000 in
set_option maxHeartbeats 400000 in
theorem name_loop (l : List UInt8) (ht : Tests l false false false false) (h32 : l.length ≤ 32) (w : World) :
    Calls Try.prog 69 #[.string (bs l)] w fun e w' => e = .returned (.bool (l.all sign)) ∧ Below w.heap.size w w' := by
  have HB := Lib.hid (below_box (w := w) (.cells #[.string (bs l)] 9))
  have hs := (Boxed.new w 9 (.string (bs l))).cell
  obtain ⟨h1, h2, h3, h4⟩ := ht
  have hsz := bs_size l
  go_enter Try.func69, Try.ntmps69
  go_wp2
  obtain ⟨W0, hW0⟩ : ∃ W0, w.alloc (.cells #[.string (bs l)] 9) = W0 := ⟨_, rfl⟩
  rw [hW0]
  have hsW : w.heap.size < W0.heap.size := by rw [← hW0]; simp
  rw [hW0] at HB hs
  clear hW0 h1 h2 h3 h4
  go_loopw [23] (fun v wr => ∃ k : Nat, k ≤ l.length ∧ v = .int .i64 (k : Int) ∧ Signs l k ∧ Below W0.heap.size W0 wr) (fun v _ => l.length - (intOf v).toNat)
  case atStart => exact ⟨0, by omega, rfl, fun j _ hj => absurd hj (by omega), Below.refl _ _⟩
  case round =>
    obtain ⟨k, hk, rfl, hsg, hb⟩ := hrel
    have hc := (hb.cell (p := ⟨w.heap.size, 0, none⟩) hsW).trans hs
    by_cases hlt : k < l.length
    · have hsc : w.heap.size < wr.heap.size := Nat.lt_of_lt_of_le hsW hb.size
      go_wp2_with fail
      refine (signC_any w.heap.size l k hlt (by omega) wr hc hsc).mono ?_
      rintro e w1 ⟨rfl, hb1⟩
      cases hx : sign l[k]
      · have hall : l.all sign = false := by
          rw [List.all_eq_false]
          exact ⟨l[k], List.getElem_mem hlt, by rw [hx]; simp⟩
        go_wp2
        go_ret
        exact ⟨by rw [hall]; rfl, HB.out.trans ((hb.trans (hb1.mono hb.size)).mono (Nat.le_of_lt hsW))⟩
      · have hsg1 : Signs l (k + 1) := fun j hj h => by
          by_cases h2 : j < k
          · exact hsg j hj h2
          · obtain rfl : j = k := by omega
            exact hx
        clear hsg
        go_wp2
        go_roundw
        case rel => exact ⟨k + 1, by omega, by go_num, hsg1, hb.trans (hb1.mono hb.size)⟩
        case measure => simp [intOf]; omega
    · have hall : l.all sign = true := by
        rw [List.all_eq_true]
        intro c hc
        obtain ⟨j, hj, rfl⟩ := List.getElem_of_mem hc
        exact hsg j hj (by omega)
      go_wp2
      go_ret
      exact ⟨by rw [hall]; rfl, HB.out.trans (hb.mono (Nat.le_of_lt hsW))⟩

theorem name_any (l : List UInt8) (w : World) :
    Calls Try.prog 69 #[.string (bs l)] w fun e w' => e = .returned (.bool (nameB l)) ∧ Below w.heap.size w w' := by
  have ht := tests l
  by_cases h : l ≠ [] ∧ l.length ≤ 32 ∧ l ≠ [46] ∧ l ≠ [46, 46]
  · obtain ⟨h1, h2, h3, h4⟩ := h
    rw [decide_eq_false h1, decide_eq_false (Nat.not_lt.2 h2), decide_eq_false h3, decide_eq_false h4] at ht
    have := name_loop l ht h2 w
    unfold nameB
    rw [decide_eq_true (show l ≠ [] ∧ l.length ≤ 32 ∧ l ≠ [46] ∧ l ≠ [46, 46] from ⟨h1, h2, h3, h4⟩), Bool.true_and]
    exact this
  · have hn : nameB l = false := by unfold nameB; rw [decide_eq_false h, Bool.false_and]
    rw [hn]
    refine name_bad l _ _ _ _ ht ?_ w
    simp only [decide_eq_true_eq]
    by_cases h1 : l = []
    · exact .inl h1
    · by_cases h2 : 32 < l.length
      · exact .inr (.inl h2)
      · by_cases h3 : l = [46]
        · exact .inr (.inr (.inl h3))
        · by_cases h4 : l = [46, 46]
          · exact .inr (.inr (.inr h4))
          · exact absurd ⟨h1, by omega, h3, h4⟩ h

end Go.Proofs.Ytphnimmhjnhajaa.P7

/-
  Layer 6, walks: letters, parts, what a text begins with.
-/
namespace Go.Proofs.Ytphnimmhjnhajaa.P6
open Go.RowKit Go.PlainAid M6
set_option linter.unusedVariables false

theorem bs_toList (l : List UInt8) : (bs l).toList = l := by rw [ByteArray.toList_eq]; rfl
theorem bs_inj {a b : List UInt8} (h : bs a = bs b) : a = b := by rw [← bs_list a, h, bs_list]
theorem ret1b {a b : Bool} (h : a = b) : Ending.returned (.bool a) = Ending.returned (.bool b) := by rw [h]

set_option maxRecDepth 100000 in
set_option maxHeartbeats 400000 in
theorem hasPre_in (a b : ByteArray) (w : World) (ha : a.size ≤ 9223372036854775807) (hb : b.size ≤ 9223372036854775807) : Calls Try.prog 84 #[.string a, .string b] w fun e w' => e = .returned (.bool (decide (a.data.toList.take b.size = b.data.toList))) ∧ w = w' := by
  have hla : a.data.toList.length = a.size := rfl
  have hlb : b.data.toList.length = b.size := rfl
  by_cases h : b.size ≤ a.size
  · have he : (a.extract 0 b.size) = bs (a.data.toList.take b.size) := by conv => lhs; rw [← bs_of a, ext_pre]
    have hd : decide (a.data.toList.take b.size = b.data.toList) = ((a.extract 0 b.size).toList == b.toList) := by
      rw [he, Bool.eq_iff_iff]
      simp only [decide_eq_true_eq, beq_iff_eq]
      constructor
      · intro h; rw [h, bs_of]
      · intro h
        rw [bs_toList] at h
        rw [h, ByteArray.toList_eq]
    rw [hd]
    clear hd he hla hlb
    go_enter Try.func84, Try.ntmps84
    go_wp2
    all_goals go_ret
    all_goals exact ⟨rfl, rfl⟩
  · have hd : decide (a.data.toList.take b.size = b.data.toList) = false := decide_eq_false (fun h2 => by
      have := congrArg List.length h2
      rw [List.length_take] at this
      omega)
    rw [hd]
    clear hd hla hlb
    go_enter Try.func84, Try.ntmps84
    go_wp2
    all_goals go_ret
    all_goals exact ⟨rfl, rfl⟩

set_option maxRecDepth 100000 in
set_option maxHeartbeats 400000 in
theorem hasPre_any (a b : ByteArray) (w : World) (ha : a.size ≤ 9223372036854775807) (hb : b.size ≤ 9223372036854775807) : Calls Try.prog 83 #[.string a, .string b] w fun e w' => e = .returned (.bool (decide (a.data.toList.take b.size = b.data.toList))) ∧ w = w' := by
  have HH := Lib.hid (hasPre_in a b)
  go_enter Try.func83, Try.ntmps83
  go_wp2_with fail
  refine (HH.out _ ha hb).mono ?_
  rintro e w1 ⟨rfl, rfl⟩
  go_wp2
  go_ret
  exact ⟨rfl, rfl⟩

/-- Of a piece: is it a letter, is it a part? -/
def letS (l : List UInt8) : Bool := match l with | [b] => letterN b.toNat | _ => false
def parS (l : List UInt8) : Bool := match l with | [b] => partN b.toNat | _ => false
theorem enc_many {c : Nat} (h : ¬ c < 128) : ∃ x y r, enc c = x :: y :: r := by
  unfold enc
  rw [if_neg h]
  split
  · exact ⟨_, _, _, rfl⟩
  · split
    · exact ⟨_, _, _, rfl⟩
    · exact ⟨_, _, _, rfl⟩
theorem letS_enc (c : Nat) : letS (enc c) = letterN c := by
  by_cases h : c < 128
  · rw [enc1 h]; show letterN _ = _; rw [to_of (by omega)]
  · obtain ⟨x, y, r, e⟩ := enc_many h
    rw [e]
    cases h2 : letterN c
    · rfl
    · exact absurd (part_lt (letter_part h2)) h
theorem parS_enc (c : Nat) : parS (enc c) = partN c := by
  by_cases h : c < 128
  · rw [enc1 h]; show partN _ = _; rw [to_of (by omega)]
  · obtain ⟨x, y, r, e⟩ := enc_many h
    rw [e]
    cases h2 : partN c
    · rfl
    · exact absurd (part_lt h2) h

end Go.Proofs.Ytphnimmhjnhajaa.P6

/-
  Layer 6, walks: read, the code points of a text.
-/
namespace Go.Proofs.Ytphnimmhjnhajaa.P6
open Go.RowKit Go.PlainAid M6
set_option linter.unusedVariables false

/-- Code points, as runes. -/
def rns (cs : List Nat) : List Value := cs.map fun (c : Nat) => Value.int .i32 (c : Int)
theorem rns_len (cs : List Nat) : (rns cs).length = cs.length := by simp [rns]
theorem rns_take (cs : List Nat) (k : Nat) (h : k < cs.length) : rns (cs.take (k + 1)) = rns (cs.take k) ++ [Value.int .i32 ((cs[k] : Nat) : Int)] := by
  unfold rns; rw [List.take_succ_eq_append_getElem h, List.map_append]; rfl
theorem rns_get {cs : List Nat} {k : Nat} (h : k < (rns cs).length) : (rns cs)[k] = Value.int .i32 ((cs[k]'(by simpa [rns] using h) : Nat) : Int) := by simp [rns]
theorem info_rune : (Try.prog.info? 21).map (fun i => (i.zero, i.size, i.bytes)) = some (some (.int .i32 0), 1, 4) := by kernel_rfl
theorem chain {w a b : World} (h : Below w.heap.size w a) (k : Below a.heap.size a b) : Below w.heap.size w b := h.trans (k.mono h.size)

/-- The iterator stands there. -/
def It (wr : World) (B : Nat) (l : List UInt8) (pos : Nat) : Prop := wr.heap[B]? = some (.stringIter (bs l) pos)
theorem It.lt {wr : World} {B : Nat} {l : List UInt8} {pos : Nat} (h : It wr B l pos) : B < wr.heap.size := (Array.getElem?_eq_some_iff.1 h).1
theorem It.moved {wr : World} {B : Nat} {l : List UInt8} {pos : Nat} (h : It wr B l pos) (p : Nat) : It (wr.iterAt B (bs l) p) B l p := Lib.iterAt_heap _ _ _ _ _ h
theorem It.pos {wr : World} {B : Nat} {l : List UInt8} {pos : Nat} (h : It wr B l pos) : wr.iterPos B = pos := by unfold World.iterPos; rw [show wr.heap[B]? = _ from h]
theorem It.own {wr : World} {B : Nat} {l : List UInt8} {pos : Nat} (h : It wr B l pos) {base : Nat} {e : TypeId} {v : Value} {n : Nat} {xs : List Value} (ho : wr.ownsRow base e 1 v n xs) (p : Nat) :
    (wr.iterAt B (bs l) p).ownsRow base e 1 v n xs := ownsRow_putObj ho (l := B) (.stringIter (bs l) p) h rfl
theorem It.apart {wr : World} {B : Nat} {l : List UInt8} {pos : Nat} (h : It wr B l pos) {base : Nat} {e : TypeId} {v : Value} {n : Nat} {xs : List Value} (ho : wr.ownsRow base e 1 v n xs) : some B ≠ v.ownBlock := by
  rcases ho.2 with ⟨rfl, _⟩ | ⟨g, cap, cur, rfl, _, hgb, _⟩
  · simp [Value.ownBlock]
  · intro e'
    obtain rfl : B = g := by simpa [Value.ownBlock] using e'
    have := (show wr.heap[B]? = _ from h).symm.trans hgb
    cases this
theorem It.grown {wr w' : World} {B : Nat} {l : List UInt8} {pos : Nat} (h : It wr B l pos) {row : Option Nat} (hg : wr.grownBy w' row) (hne : some B ≠ row) : It w' B l pos := (hg.block B h.lt hne).trans h
theorem It.alloc {wr : World} {B : Nat} {l : List UInt8} {pos : Nat} (h : It wr B l pos) (o : Obj) : It (wr.alloc o) B l pos := h.grown (World.grownBy_alloc wr o none) (by simp)
theorem It.new (w : World) (l : List UInt8) : It (w.iter (bs l) 0) w.heap.size l 0 := World.iter_heap w _ 0
theorem It.next {P : Program} {wr : World} {B : Nat} {l : List UInt8} {pos : Nat} (h : It wr B l pos) (hp : pos < l.length) {c n : Nat} (hd : Utf8.decode (bs l) pos = (c, n)) (ty : TypeId) :
    (Instr.next (.pointer (some ⟨B, 0, none⟩)) true ty).run P wr = .ok (.tuple #[.bool true, .int .i64 (pos : Int), .int .i32 (c : Int)]) (wr.iterAt B (bs l) (pos + n)) := by
  have := Lib.run_next_any_at (P := P) wr B (bs l) pos ty h (by rw [bs_size]; exact hp)
  rw [hd] at this
  exact this
theorem It.done {P : Program} {wr : World} {B : Nat} {l : List UInt8} {pos : Nat} (h : It wr B l pos) (hp : l.length ≤ pos) (ty : TypeId) :
    (Instr.next (.pointer (some ⟨B, 0, none⟩)) true ty).run P wr = .ok (.tuple #[.bool false]) wr :=
  Lib.run_next_end_at wr B (bs l) pos ty h (by rw [bs_size]; omega)
theorem below_iter (w : World) (l : List UInt8) : Below w.heap.size w (w.iter (bs l) 0) := (Below.refl _ w).alloc (Nat.le_refl _) _

theorem hasPre_at {l : List UInt8} {k : Nat} {b : Bool} (hz : l.length ≤ 9223372036854775807) (h : decide ((l.drop k).take 3 = [239, 191, 189]) = b) (w : World) :
    Calls Try.prog 83 #[.string ((bs l).extract k (bs l).size), .string ⟨#[239, 191, 189]⟩] w fun e w' => e = .returned (.bool b) ∧ w = w' := by
  rw [ext_end, bs_list]
  have := hasPre_any (bs (l.drop k)) ⟨#[239, 191, 189]⟩ w (by rw [bs_size, List.length_drop]; omega) (by decide)
  rw [bs_list] at this
  rw [← h]
  exact this

/-- WHAT THE LOOP OF read KEEPS. -/
def ReadRel (l : List UInt8) (cs : List Nat) (w : World) (v : Value) (wr : World) : Prop :=
  ∃ k : Nat, k ≤ cs.length ∧ It wr w.heap.size l (flat (cs.take k)).length ∧ wr.ownsRow w.heap.size 21 1 v k (rns (cs.take k)) ∧ Below w.heap.size w wr
/-- What read answers. -/
def ReadE (cs : List Nat) (r : List UInt8) (w : World) (e : Ending) (w' : World) : Prop :=
  (r ≠ [] ∧ e = .returned (.tuple #[.slice none 0 0, .int .i64 60])) ∨ (r = [] ∧ ∃ v, e = .returned (.tuple #[v, .int .i64 0]) ∧ w'.ownsRow w.heap.size 21 1 v cs.length (rns cs))

set_option maxRecDepth 100000 in
set_option maxHeartbeats 1000000 in
theorem read_any (l : List UInt8) (cs : List Nat) (r : List UInt8) (h : Reads l cs r) (hz : l.length ≤ 1099511627776) (w : World) :
    Calls Try.prog 80 #[.string (bs l)] w fun e w' => ReadE cs r w e w' ∧ Below w.heap.size w w' := by
  obtain ⟨i0, hi0, hz0, hz1, hz2⟩ := info_parts info_rune
  have h0 : ReadRel l cs w (.slice none 0 0) (w.iter (bs l) 0) := ⟨0, by omega, It.new w l, World.ownsRow_nil _ _ _ _, below_iter w l⟩
  have H0 := Lib.hid h0
  have H := Lib.hid h
  have hcl : cs.length ≤ l.length := by rw [h.split, List.length_append]; have := flat_len_le (cs := cs); omega
  clear h0 h
  go_enter Try.func80, Try.ntmps80
  go_wp2
  go_loopw [4] (fun v wr => ReadRel l cs w v wr) (fun _ wr => l.length - wr.iterPos w.heap.size)
  case atStart => exact H0.out
  case round =>
    clear H0
    obtain ⟨k, hk, hit, ho, hb⟩ := hrel
    have hB : w.heap.size ≤ wr.heap.size := hb.size
    by_cases hlt : k < cs.length
    · have hpl := (H.out.at hlt).2
      have hnx := fun ty => hit.next (P := Try.prog) hpl (H.out.dec hlt) ty
      have HF := Lib.hid (flat_take cs k hlt)
      have hpos := hit.pos
      have hep := enc_pos cs[k]
      have hit1 := hit.moved ((flat (cs.take k)).length + (enc cs[k]).length)
      have ho1 := hit.own ho ((flat (cs.take k)).length + (enc cs[k]).length)
      have hb1 := Lib.below_iterAt hb (Nat.le_refl _) (bs l) ((flat (cs.take k)).length + (enc cs[k]).length)
      have HR := Lib.hid (rns_take cs k hlt)
      have hfe : (flat (cs.take k)).length + (enc cs[k]).length = (flat (cs.take (k + 1))).length := by rw [HF.out, List.length_append]
      rw [hfe] at hnx hit1 ho1 hb1
      have hfn : (flat (cs.take k)).length < (flat (cs.take (k + 1))).length := by omega
      have hpre : cs[k] = 65533 → decide ((l.drop (flat (cs.take k)).length).take 3 = [239, 191, 189]) = true := fun hf => decide_eq_true (H.out.pre hlt hf)
      clear hit ho hb hfe
      generalize cs[k] = c at hnx HR hpre
      generalize hposk : (flat (cs.take k)).length = pk at hnx hpl hpos hfn hpre
      generalize hposn : (flat (cs.take (k + 1))).length = pn at hnx hit1 ho1 hb1 hfn
      generalize wr.iterAt w.heap.size (bs l) pn = W1 at hnx hit1 ho1 hb1
      have hps : pk ≤ (bs l).size := by rw [bs_size]; omega
      have hB1 : w.heap.size ≤ W1.heap.size := hb1.size
      by_cases hc : c = 65533
      · have hpr := hpre hc
        have hcd : ((c : Int) == 65533) = true := by rw [hc]; rfl
        clear hpre hc
        go_wp2_with fail
        refine (hasPre_at (by omega) hpr _).mono ?_
        rintro e w1 ⟨rfl, rfl⟩
        go_wp2_with (at_builtin; refine wpList_append_own _ rfl (.tmp 22) (.tmp 24) 120 rfl w.heap.size 21 i0 (.int .i32 0) 1 4 Try.underlying120 hi0 hz0 hz1 hz2 rfl (by decide) _ _ _ rfl (ho1.alloc _) ⟨W1.heap.size, 0, none⟩ 1 1 _ rfl rfl (cell_one_new _ _ _) (by simp [Value.oneCell']) (by unfold maxLen; omega) (by omega) (by have := hb1.size; simp; omega) ?_; intro v1 w2 hown1 hg1 _)
        go_wp2
        have hap := (hit1.alloc _).apart (ho1.alloc (.cells #[.int .i32 (c : Int)] 21))
        have hit2 := (hit1.alloc _).grown hg1 hap
        go_roundw
        case rel => exact ⟨k + 1, by omega, by rw [hposn]; exact hit2, by rw [HR.out]; exact hown1, (hb1.alloc hb1.size _).grown hg1 (by simp; omega) (fun q hq => (ho1.lt q hq).1)⟩
        case measure => rw [hpos, hit2.pos]; omega
      · have hcd : ((c : Int) == 65533) = false := by simp; omega
        clear hpre hc
        go_wp2_with (at_builtin; refine wpList_append_own _ rfl (.tmp 22) (.tmp 24) 120 rfl w.heap.size 21 i0 (.int .i32 0) 1 4 Try.underlying120 hi0 hz0 hz1 hz2 rfl (by decide) _ _ _ rfl (ho1.alloc _) ⟨W1.heap.size, 0, none⟩ 1 1 _ rfl rfl (cell_one_new _ _ _) (by simp [Value.oneCell']) (by unfold maxLen; omega) (by omega) (by have := hb1.size; simp; omega) ?_; intro v1 w2 hown1 hg1 _)
        go_wp2
        have hap := (hit1.alloc _).apart (ho1.alloc (.cells #[.int .i32 (c : Int)] 21))
        have hit2 := (hit1.alloc _).grown hg1 hap
        go_roundw
        case rel => exact ⟨k + 1, by omega, by rw [hposn]; exact hit2, by rw [HR.out]; exact hown1, (hb1.alloc hb1.size _).grown hg1 (by simp; omega) (fun q hq => (ho1.lt q hq).1)⟩
        case measure => rw [hpos, hit2.pos]; omega
    · obtain rfl : k = cs.length := by omega
      rw [List.take_length] at hit ho
      by_cases hr : r = []
      · have hend : l.length ≤ (flat cs).length := by rw [H.out.split, hr, List.append_nil]; omega
        have hnx := fun ty => hit.done (P := Try.prog) hend ty
        go_wp2
        go_ret2
        exact ⟨.inr ⟨hr, _, rfl, ho⟩, hb⟩
      · obtain ⟨hd, hnp, hpl⟩ := H.out.dec_end hr
        have hnx := fun ty => hit.next (P := Try.prog) hpl hd ty
        have hpr : decide ((l.drop (flat cs).length).take 3 = [239, 191, 189]) = false := decide_eq_false hnp
        have hb1 := Lib.below_iterAt hb (Nat.le_refl _) (bs l) ((flat cs).length + 1)
        have hps : (flat cs).length ≤ (bs l).size := by rw [bs_size]; omega
        clear hit ho hb hd hnp
        generalize (flat cs).length = pk at *
        generalize wr.iterAt w.heap.size (bs l) (pk + 1) = W1 at hnx hb1
        go_wp2_with fail
        refine (hasPre_at (by omega) hpr _).mono ?_
        rintro e w1 ⟨rfl, rfl⟩
        go_wp2
        go_ret2
        exact ⟨.inl ⟨hr, rfl⟩, hb1⟩

end Go.Proofs.Ytphnimmhjnhajaa.P6

/-
  Layer 6, walks: Split, Len, Cut.
-/
namespace Go.Proofs.Ytphnimmhjnhajaa.P6
open Go.RowKit Go.PlainAid M6
set_option linter.unusedVariables false

/-- Code points that may stand in a text. -/
def Txt (cs : List Nat) : Prop := ∀ c ∈ cs, okc c
/-- Bytes that are no text. -/
def Bad (l : List UInt8) : Prop := ∃ cs r, Reads l cs r ∧ r ≠ []
theorem txt_or (l : List UInt8) : Bad l ∨ ∃ cs, l = flat cs ∧ Txt cs := by
  obtain ⟨cs, r, h⟩ := reads l.length l (Nat.le_refl _)
  by_cases hr : r = []
  · exact .inr ⟨cs, by rw [h.split, hr, List.append_nil], h.ok⟩
  · exact .inl ⟨cs, r, h, hr⟩
theorem Txt.take {cs : List Nat} (h : Txt cs) (k : Nat) : Txt (cs.take k) := fun c hc => h c (List.mem_of_mem_take hc)
theorem Txt.drop {cs : List Nat} (h : Txt cs) (k : Nat) : Txt (cs.drop k) := fun c hc => h c (List.mem_of_mem_drop hc)

theorem Rd.of_own3 {w : World} {B : Nat} {e : TypeId} {v : Value} {n : Nat} {xs : List Value} (h : w.ownsRow B e 1 v n xs) : ∃ A c, v = .slice A n c ∧ Rd w A xs ∧ n ≤ c ∧ c ≤ maxLen := by
  obtain ⟨A, c, hv, hr, _⟩ := Rd.of_own h
  refine ⟨A, c, hv, hr, ?_⟩
  rcases h.2 with ⟨h1, h2⟩ | ⟨g, cap, cur, h1, _, _, h3, h4, _⟩
  · rw [hv] at h1; cases h1; exact ⟨Nat.le_refl _, by unfold maxLen; omega⟩
  · rw [hv] at h1; cases h1; exact ⟨h3, h4⟩

theorem read_good {cs : List Nat} (h : Txt cs) (hz : (flat cs).length ≤ 1099511627776) (w : World) :
    Calls Try.prog 80 #[.string (bs (flat cs))] w fun e w' => ∃ A c, e = .returned (.tuple #[.slice A cs.length c, .int .i64 0]) ∧ Rd w' A (rns cs) ∧ cs.length ≤ c ∧ c ≤ maxLen ∧ Below w.heap.size w w' := by
  refine (read_any (flat cs) cs [] (reads_flat h) hz w).mono ?_
  rintro e w' ⟨⟨h1, _⟩ | ⟨_, v, he, ho⟩, hb⟩
  · exact absurd rfl h1
  · obtain ⟨A, c, rfl, hr, hc⟩ := Rd.of_own3 ho
    exact ⟨A, c, he, hr, hc.1, hc.2, hb⟩
theorem read_bad {l : List UInt8} (h : Bad l) (hz : l.length ≤ 1099511627776) (w : World) :
    Calls Try.prog 80 #[.string (bs l)] w fun e w' => e = .returned (.tuple #[.slice none 0 0, .int .i64 60]) ∧ Below w.heap.size w w' := by
  obtain ⟨cs, r, h, hr⟩ := h
  refine (read_any l cs r h hz w).mono ?_
  rintro e w' ⟨⟨_, he⟩ | ⟨h1, _⟩, hb⟩
  · exact ⟨he, hb⟩
  · exact absurd h1 hr

/-- The pieces of a text. -/
def pcs (cs : List Nat) : List Value := cs.map fun c => Value.string (bs (enc c))
theorem pcs_len (cs : List Nat) : (pcs cs).length = cs.length := by simp [pcs]
theorem pcs_get {cs : List Nat} {k : Nat} (h : k < (pcs cs).length) : (pcs cs)[k] = Value.string (bs (enc (cs[k]'(by simpa [pcs] using h)))) := by simp [pcs]

theorem runesBytes_ok : ∀ {cs : List Nat}, Txt cs → ∀ s : ByteArray, (cs.map fun (c : Nat) => (c : Int)).foldl (fun r n => r ++ Utf8.encode n) s = bs (s.data.toList ++ flat cs) := by
  intro cs
  induction cs with
  | nil => intro _ s; rw [flat_nil, List.append_nil]; rfl
  | cons c cs ih =>
    intro h s
    rw [List.map_cons, List.foldl_cons, ih (fun x hx => h x (by simp [hx])), enc_bs (h c (by simp)), flat_cons]
    congr 1
    conv => lhs; rw [← bs_of s, bs_join, bs_list]
    simp
theorem bytes_ok {cs : List Nat} (h : Txt cs) : runesBytes (cs.map fun (c : Nat) => (c : Int)) = bs (flat cs) := runesBytes_ok h _
/-- Runes in memory, as a string. -/
theorem rd_string {w : World} {A : Option Addr} {n c : Nat} {cs : List Nat} (hr : Rd w A (rns cs)) (hn : cs.length = n) (ht : Txt cs) :
    (convert 120 9 (.slice A n c)).run Try.prog w = .ok (.string (bs (flat cs))) w := by
  subst hn
  rw [← bytes_ok ht]
  have key : ∀ a : Addr, (∀ j, j < (cs.map fun (c : Nat) => (c : Int)).length → w.cell? (a.add j) = some (.int .i32 ((cs.map fun (c : Nat) => (c : Int)).getD j 0))) →
      (convert 120 9 (.slice (some a) cs.length c)).run Try.prog w = .ok (.string (runesBytes (cs.map fun (c : Nat) => (c : Int)))) w := by
    intro a h
    have := run_convert_runes (P := Try.prog) w 120 9 21 a cs.length c (cs.map fun (c : Nat) => (c : Int)) (by simp) Try.underlying120 Try.underlying21 Try.underlying9 h
    rw [List.take_of_length_le (by simp)] at this
    exact this
  cases A with
  | none =>
    rcases hr with h0 | ⟨b, off, e, _⟩
    · have : cs = [] := List.eq_nil_of_length_eq_zero (by rw [← rns_len, h0]; rfl)
      subst this
      exact run_convert_runes_nil (P := Try.prog) w 120 9 21 _ _ Try.underlying120 Try.underlying21 Try.underlying9
    · cases e
  | some a =>
    refine key a fun j hj => ?_
    rw [List.length_map] at hj
    rcases hr with h0 | ⟨b, off, e, hb, hc⟩
    · have : cs.length = 0 := by rw [← rns_len, h0]; rfl
      omega
    · cases e
      rw [add_none, hc j (by rw [rns_len]; exact hj), rns_get]
      simp [List.getD, List.getElem?_eq_getElem hj]

/-- Where a part of a slice begins. -/
def sub (A : Option Addr) (c f : Nat) : Option Addr := if c = f then A else A.map (·.add f)
theorem Rd.sub {w : World} {A : Option Addr} {xs : List Value} {c f t : Nat} (h : Rd w A xs) (hc : xs.length ≤ c) (h1 : f ≤ t) (h2 : t ≤ xs.length) : Rd w (sub A c f) ((xs.drop f).take (t - f)) := by
  by_cases h0 : t - f = 0
  · exact .inl (by rw [h0, List.take_zero])
  · rcases h with rfl | ⟨b, off, rfl, hb, hcell⟩
    · simp at h2; omega
    · unfold P6.sub
      rw [if_neg (by omega)]
      refine .inr ⟨b, off + f, by simp [add_none], hb, fun j hj => ?_⟩
      rw [List.length_take, List.length_drop] at hj
      rw [show off + f + j = off + (f + j) by omega, hcell (f + j) (by omega)]
      simp [List.getElem_drop]

def Split1 (cs : List Nat) (w : World) (e : Ending) (w' : World) : Prop := ∃ A c, e = .returned (.tuple #[.slice A cs.length c, .int .i64 0]) ∧ Rd w' A (pcs cs) ∧ cs.length ≤ c ∧ Below w.heap.size w w'

/-- WHAT THE LOOP OF Split KEEPS. -/
def SplRel (cs : List Nat) (w1 : World) (g : Nat) (i : Value) (wr : World) : Prop :=
  ∃ k : Nat, k ≤ cs.length ∧ i = .int .i64 (k : Int) ∧ wr.ownsRow g 9 1 (.slice (some ⟨g, 0, none⟩) cs.length cs.length) cs.length (pcs (cs.take k) ++ List.replicate (cs.length - k) (Value.string ⟨#[]⟩)) ∧ Below g w1 wr
theorem info_str : (Try.prog.info? 9).map (fun i => (i.zero, i.size, i.bytes)) = some (some (.string ⟨#[]⟩), 1, 16) := by kernel_rfl
theorem pcs_take (cs : List Nat) (k : Nat) (h : k < cs.length) : pcs (cs.take (k + 1)) = pcs (cs.take k) ++ [Value.string (bs (enc cs[k]))] := by
  unfold pcs; rw [List.take_succ_eq_append_getElem h, List.map_append]; rfl
theorem pcs_laid {cs : List Nat} {k : Nat} (h : k < cs.length) : (pcs (cs.take k) ++ List.replicate (cs.length - k) (Value.string ⟨#[]⟩)).set k (.string (bs (enc cs[k]))) = pcs (cs.take (k + 1)) ++ List.replicate (cs.length - (k + 1)) (Value.string ⟨#[]⟩) := by
  have hl : (pcs (cs.take k)).length = k := by rw [pcs_len, List.length_take]; omega
  rw [pcs_take cs k h, List.set_append_right _ _ (by omega), hl, Nat.sub_self, show cs.length - k = (cs.length - (k + 1)) + 1 by omega, List.replicate_succ]
  simp

set_option maxRecDepth 100000 in
set_option maxHeartbeats 400000 in
theorem len_bad {l : List UInt8} (h : Bad l) (hz : l.length ≤ 1099511627776) (w : World) :
    Calls Try.prog 72 #[.string (bs l)] w fun e w' => e = .returned (.tuple #[.int .i64 0, .int .i64 60]) ∧ Below w.heap.size w w' := by
  have HR := Lib.hid (read_bad h hz)
  clear h hz
  generalize bs l = s at *
  go_enter Try.func72, Try.ntmps72
  go_wp2_with fail
  refine (HR.out _).mono ?_
  rintro e w1 ⟨rfl, hb⟩
  go_wp2
  go_ret2
  exact ⟨rfl, hb⟩

set_option maxRecDepth 100000 in
set_option maxHeartbeats 400000 in
theorem len_good {cs : List Nat} (h : Txt cs) (hz : (flat cs).length ≤ 1099511627776) (w : World) :
    Calls Try.prog 72 #[.string (bs (flat cs))] w fun e w' => e = .returned (.tuple #[.int .i64 (cs.length : Int), .int .i64 0]) ∧ Below w.heap.size w w' := by
  have HR := Lib.hid (read_good h hz)
  clear h hz
  generalize bs (flat cs) = s at *
  go_enter Try.func72, Try.ntmps72
  go_wp2_with fail
  refine (HR.out _).mono ?_
  rintro e w1 ⟨A, c, rfl, hr, _, _, hb⟩
  clear hr
  go_wp2
  go_ret2
  exact ⟨rfl, hb⟩

/-- Are these no places to cut at? -/
def OutC (cs : List Nat) (f t : Int) : Prop := f < 0 ∨ t < f ∨ (cs.length : Int) < t

end Go.Proofs.Ytphnimmhjnhajaa.P6

/-
  Layer 1, walks: Take of the program and of the document.
-/
namespace Go.Proofs.Ytphnimmhjnhajaa.V1
open Go.RowKit Go.PlainAid

def TkRel (s : ByteArray) (nv iv : Value) : Prop :=
  ∃ k a : Nat, nv = .int .i64 (a : Int) ∧ iv = .int .i64 (k : Int) ∧ k ≤ 8 ∧ k ≤ s.size ∧ a < 128 ^ k ∧ take s.data.toList = tk k a (s.data.toList.drop k)

theorem or_shift (a x k : Nat) (hx : x < 128) (hk : k ≤ 8) (ha : a < 128 ^ k) : bits .or .i64 (a : Int) (wrap64 ((x : Int) * 2 ^ (7 * k))) = ((a + x * 128 ^ k : Nat) : Int) := by
  have h128 : (128 : Nat) ^ k = 2 ^ (7 * k) := by rw [show (128 : Nat) = 2 ^ 7 by rfl, ← Nat.pow_mul]
  have hc : ((x : Int) * 2 ^ (7 * k)) = ((x * 128 ^ k : Nat) : Int) := by rw [h128]; simp
  have hp : 128 ^ k ≤ 72057594037927936 := by
    exact Nat.le_trans (Nat.pow_le_pow_right (n := 128) (by omega) hk) (by decide)
  have hx2 : x * 128 ^ k ≤ 127 * 72057594037927936 := Nat.mul_le_mul (by omega) hp
  rw [hc, IntWalk.wrap64_in _ ⟨by omega, by omega⟩]
  rw [(bits_nat .i64 63 (by decide) (fun n h0 h1 => IntWalk.i64_in n ⟨by omega, by omega⟩) a (x * 128 ^ k) (by omega) (by omega)).2]
  rw [Nat.or_comm, h128, Nat.mul_comm x, ← Nat.two_pow_add_eq_or_of_lt (by rw [← h128]; exact ha)]
  congr 1; omega

theorem tk_stop {l r : List UInt8} {k a : Nat} {b : UInt8} (ht : take l = tk k a (l.drop k)) (hd : l.drop k = b :: r) (h : b.toNat < 128) (hz : ¬ (b.toNat = 0 ∧ 0 < k)) :
    take l = (a + b.toNat * 128 ^ k, r, 0) := by
  rw [ht, hd, tk, if_pos h, if_neg hz]
theorem tk_zero {l r : List UInt8} {k a : Nat} {b : UInt8} (ht : take l = tk k a (l.drop k)) (hd : l.drop k = b :: r) (h : b.toNat < 128) (hz : b.toNat = 0 ∧ 0 < k) :
    take l = (0, [], 11) := by
  rw [ht, hd, tk, if_pos h, if_pos hz]
theorem tk_far {l r : List UInt8} {k a : Nat} {b : UInt8} (ht : take l = tk k a (l.drop k)) (hd : l.drop k = b :: r) (h : ¬ b.toNat < 128) (h8 : k = 8) :
    take l = (0, [], 11) := by
  rw [ht, hd, tk, if_neg h, if_pos h8]
theorem tk_on {l r : List UInt8} {k a : Nat} {b : UInt8} (ht : take l = tk k a (l.drop k)) (hd : l.drop k = b :: r) (h : ¬ b.toNat < 128) (h8 : ¬ k = 8) :
    take l = tk (k + 1) (a + (b.toNat - 128) * 128 ^ k) r := by
  rw [ht, hd, tk, if_neg h, if_neg h8]
theorem tk_out {s : ByteArray} {k a : Nat} (ht : take s.data.toList = tk k a (s.data.toList.drop k)) (h : k = s.size) : take s.data.toList = (0, [], 10) := by
  rw [ht, List.drop_of_length_le (by simp; omega), tk]

theorem TkRel.on {s : ByteArray} {k a : Nat} {b : UInt8} {x : Int} (ht : take s.data.toList = tk k a (s.data.toList.drop k)) (hd : s.data.toList.drop k = b :: s.data.toList.drop (k + 1))
    (hb : x = (b.toNat : Int)) (h : ¬ x < 128) (h8 : ¬ k = 8) (hk8 : k ≤ 8) (hks : k < s.size) (ha : a < 128 ^ k) :
    TkRel s (.int .i64 (bits .or .i64 (a : Int) (wrap64 ((x - 128) * 2 ^ (7 * k))))) (.int .i64 ((k : Int) + 1)) := by
  subst hb
  have hb2 : b.toNat < 256 := b.toNat_lt
  refine ⟨k + 1, a + (b.toNat - 128) * 128 ^ k, ?_, by go_num, by omega, by omega, ?_, tk_on ht hd (by omega) h8⟩
  · rw [show ((b.toNat : Int) - 128) = ((b.toNat - 128 : Nat) : Int) by omega, or_shift a (b.toNat - 128) k (by omega) (by omega) ha]
  · rw [Nat.pow_succ]
    have : (b.toNat - 128) * 128 ^ k ≤ 127 * 128 ^ k := Nat.mul_le_mul_right _ (by omega)
    omega

set_option maxRecDepth 100000 in
set_option maxHeartbeats 400000 in
theorem take_any (s : ByteArray) (hs : s.size ≤ 9223372036854775807) (w : World) :
    Calls Try.prog 45 #[.string s] w fun e w' => e = .returned (.tuple #[.int .i64 ((take s.data.toList).1 : Int), .string (bs (take s.data.toList).2.1), .int .i64 (take s.data.toList).2.2]) ∧ Below w.heap.size w w' := by
  have hb := get_bt s
  go_enter Try.func45, Try.ntmps45
  go_wp2
  go_step3
  go_wp2
  go_step3
  go_wp2
  go_loop [2, 5] (fun nv iv => TkRel s nv iv) (fun _ iv => 9 - (intOf iv).toNat)
  case atStart => exact ⟨0, 0, rfl, rfl, by omega, by omega, by simp, rfl⟩
  case round =>
    obtain ⟨k, a, rfl, rfl, hk8, hks, ha, ht⟩ := hrel
    have HT := Lib.hid ht
    have HA := Lib.hid ha
    clear ht ha
    by_cases hsz : k = s.size
    · have HS := Lib.hid hsz
      have hne : ((k : Int) == (s.size : Int)) = true := by simp; omega
      clear hsz
      go_wp2
      try rw [Exit.noGoto_ret]
      go_ret3
      exact ⟨by rw [tk_out HT.out HS.out]; rfl, Below.refl _ _⟩
    · obtain ⟨b, hd, hbt⟩ := drop_bt s (show k < s.size by omega)
      have HD := Lib.hid hd
      have HB := Lib.hid hbt
      have hb0 : 0 ≤ bt s k := bt_nonneg s k
      have hb1 : bt s k ≤ 255 := bt_le s k
      have hks2 : k < s.size := by omega
      have hne : ((k : Int) == (s.size : Int)) = false := by simp; omega
      clear hd hbt hsz
      by_cases hlo : bt s k < 128
      · by_cases hz : bt s k = 0 ∧ 0 < k
        · obtain ⟨hz1, hz2⟩ := hz
          have hz1' : (bt s k == 0) = true := by simp; omega
          have HZ := Lib.hid hz1
          clear hz1
          go_wp2
          try rw [Exit.noGoto_ret]
          go_ret3
          have e1 := HB.out
          have e2 := HZ.out
          exact ⟨by rw [tk_zero HT.out HD.out (by omega) ⟨by omega, hz2⟩]; rfl, Below.refl _ _⟩
        · have fin : bits .or .i64 (a : Int) (wrap64 (bt s k * 2 ^ (7 * k))) = ((take s.data.toList).1 : Int) ∧ s.extract (k + 1) s.size = bs (take s.data.toList).2.1 ∧ (0 : Int) = (take s.data.toList).2.2 := by
            have e1 := HB.out
            rw [tk_stop HT.out HD.out (by omega) (by omega), e1]
            exact ⟨or_shift a b.toNat k (by omega) hk8 HA.out, ext_end s (k + 1), rfl⟩
          have FIN := Lib.hid fin
          clear fin
          by_cases hz1 : bt s k = 0
          · obtain rfl : k = 0 := by omega
            have HZ := Lib.hid hz1
            have hz1' : (bt s 0 == 0) = true := by simp; omega
            clear hz1
            go_wp2
            go_quiet (fail)
            go_wp2
            try rw [Exit.noGoto_ret]
            go_ret3
            have e0 : wrap64 (bt s 0 * 2 ^ (7 * 0)) = bt s 0 := by
              show wrap64 (bt s 0 * 1) = _
              rw [Int.mul_one, IntWalk.wrap64_in _ ⟨by omega, by omega⟩]
            have f1 := FIN.out.1
            rw [e0] at f1
            exact ⟨ret3 f1 FIN.out.2.1 FIN.out.2.2, below_drewN (Below.refl _ _) nq⟩
          · have hz1' : (bt s k == 0) = false := by simp; omega
            clear hz1 hz
            go_wp2
            go_quiet (fail)
            go_wp2
            try rw [Exit.noGoto_ret]
            go_ret3
            exact ⟨ret3 FIN.out.1 FIN.out.2.1 FIN.out.2.2, below_drewN (Below.refl _ _) nq⟩
      · by_cases h8 : k = 8
        · have H8 := Lib.hid h8
          have h8' : ((k : Int) == 8) = true := by simp; omega
          clear h8
          go_wp2
          try rw [Exit.noGoto_ret]
          go_ret3
          have e1 := HB.out
          exact ⟨by rw [tk_far HT.out HD.out (by omega) H8.out]; rfl, Below.refl _ _⟩
        · have h8' : ((k : Int) == 8) = false := by simp; omega
          go_wp2
          go_round
          case rel => exact TkRel.on HT.out HD.out HB.out hlo h8 hk8 hks2 HA.out
          case measure => simp [intOf]; omega

/-- WHAT THE LOOP OF THE DOCUMENT's Take KEEPS: n, the next byte's place, its weight. -/
def RtRel (s : ByteArray) (nv pv iv : Value) : Prop :=
  ∃ k a p : Nat, nv = .int .i64 (a : Int) ∧ pv = .int .i64 (p : Int) ∧ iv = .int .i64 (k : Int) ∧ k ≤ 8 ∧ k ≤ s.size ∧ p = 128 ^ k ∧ a < p ∧ take s.data.toList = tk k a (s.data.toList.drop k)

theorem p_le {k p : Nat} (h : p = 128 ^ k) (hk : k ≤ 8) : 1 ≤ p ∧ p ≤ 72057594037927936 := by
  subst h
  exact ⟨Nat.one_le_pow _ _ (by omega), Nat.le_trans (Nat.pow_le_pow_right (n := 128) (by omega) hk) (by decide)⟩

theorem prod_le {x : Int} {p : Nat} (h0 : 0 ≤ x) (h1 : x ≤ 127) (hp : p ≤ 72057594037927936) : 0 ≤ x * (p : Int) ∧ x * (p : Int) ≤ 9151314442816847872 := by
  obtain ⟨x, rfl⟩ := Int.eq_ofNat_of_zero_le h0
  have h : x * p ≤ 127 * 72057594037927936 := Nat.mul_le_mul (by omega) hp
  constructor
  · exact_mod_cast Nat.zero_le _
  · have : ((x * p : Nat) : Int) ≤ 9151314442816847872 := by omega
    simpa using this

theorem RtRel.on {s : ByteArray} {k a p : Nat} {b : UInt8} {x : Int} (ht : take s.data.toList = tk k a (s.data.toList.drop k)) (hd : s.data.toList.drop k = b :: s.data.toList.drop (k + 1))
    (hb : x = (b.toNat : Int)) (h : ¬ x < 128) (h8 : ¬ k = 8) (hk8 : k ≤ 8) (hks : k < s.size) (hp : p = 128 ^ k) (ha : a < p) :
    RtRel s (.int .i64 ((a : Int) + x % 128 * (p : Int))) (.int .i64 ((p : Int) * 128)) (.int .i64 ((k : Int) + 1)) := by
  subst hb
  have hb2 : b.toNat < 256 := b.toNat_lt
  have ep : p * 128 = 128 ^ (k + 1) := by rw [hp, Nat.pow_succ]
  refine ⟨k + 1, a + (b.toNat - 128) * p, p * 128, ?_, by go_num, by go_num, by omega, by omega, ep, ?_, ?_⟩
  · rw [show ((b.toNat : Int) % 128) = ((b.toNat - 128 : Nat) : Int) by omega]; simp
  · have : (b.toNat - 128) * p ≤ 127 * p := Nat.mul_le_mul_right _ (by omega)
    omega
  · rw [tk_on ht hd (by omega) h8, hp]

end Go.Proofs.Ytphnimmhjnhajaa.V1

/-
  Layer 1, walks: numbers with signs, texts with their length ahead.
-/
namespace Go.Proofs.Ytphnimmhjnhajaa.V1
open Go.RowKit Go.PlainAid

theorem take_shape (l : List UInt8) : (∃ n r, take l = (n, r, 0) ∧ n ≤ 9223372036854775807 ∧ r.length ≤ l.length) ∨ (∃ e : Int, take l = (0, [], e) ∧ (e = 10 ∨ e = 11)) := by
  have hr := tk_rest l 0 0
  rcases tk_cases l 0 0 with h | ⟨h1, h2, h3⟩
  · exact .inl ⟨(take l).1, (take l).2.1, by rw [← h]; rfl, take_lt l, hr⟩
  · refine .inr ⟨(take l).2.2, ?_, h3⟩
    have e1 : (take l).1 = 0 := h1
    have e2 : (take l).2.1 = [] := h2
    rw [show take l = ((take l).1, (take l).2.1, (take l).2.2) by rfl, e1, e2]

theorem take_as {s : ByteArray} {n : Nat} {r : List UInt8} {e : Int} (h : take s.data.toList = (n, r, e)) (hs : s.size ≤ 9223372036854775807) (w : World) :
    Calls Try.prog 45 #[.string s] w fun x w' => x = .returned (.tuple #[.int .i64 (n : Int), .string (bs r), .int .i64 e]) ∧ Below w.heap.size w w' := by
  have := take_any s hs w
  rw [h] at this
  exact this
/-- A3's answers. -/
def intR (n : Int) : List UInt8 × Int := if n < -4611686018427387904 ∨ 4611686018427387903 < n then ([], 1) else (natB (zig n), 0)
def takeInt (s : List UInt8) : Int × List UInt8 × Int := (zag (take s).1, (take s).2.1, (take s).2.2)

set_option maxRecDepth 100000 in
set_option maxHeartbeats 400000 in
theorem takeBytes_any (s : ByteArray) (hs : s.size ≤ 9223372036854775807) (w : World) :
    Calls Try.prog 66 #[.string s] w fun e w' => e = .returned (.tuple #[.string (bs (takeBytes s.data.toList).1), .string (bs (takeBytes s.data.toList).2.1), .int .i64 (takeBytes s.data.toList).2.2]) ∧ Below w.heap.size w w' := by
  rcases take_shape s.data.toList with ⟨n, r, ht, hn, hr⟩ | ⟨er, ht, her⟩
  · have HT := Lib.hid ht
    clear ht
    have hsr : (bs r).size ≤ 9223372036854775807 := by
      have e1 : s.data.toList.length = s.size := rfl
      rw [bs_size]; omega
    by_cases hlt : (bs r).size < n
    · have hfin : takeBytes s.data.toList = ([], [], 10) := by
        unfold takeBytes; rw [HT.out]; rw [bs_size] at hlt; simp [hlt]
      have HF := Lib.hid hfin
      clear hfin
      go_enter Try.func66, Try.ntmps66
      go_wp2_with fail
      refine (take_as HT.out hs _).mono ?_
      rintro e w1 ⟨rfl, hb⟩
      go_wp2
      go_ret3
      exact ⟨by rw [HF.out]; rfl, hb⟩
    · have hfin : takeBytes s.data.toList = (r.take n, r.drop n, 0) := by
        unfold takeBytes; rw [HT.out]; rw [bs_size] at hlt; simp [hlt]
      have HF := Lib.hid hfin
      have hle : n ≤ (bs r).size := by omega
      clear hfin
      go_enter Try.func66, Try.ntmps66
      go_wp2_with fail
      refine (take_as HT.out hs _).mono ?_
      rintro e w1 ⟨rfl, hb⟩
      go_wp2
      go_quiet (fail)
      go_wp2
      go_ret3
      refine ⟨?_, below_drewN hb nq⟩
      rw [HF.out]
      exact ret3s (ext_pre r n) (ext_end (bs r) n) rfl
  · have hfin : takeBytes s.data.toList = ([], [], er) := by
      unfold takeBytes; rw [ht]; rw [if_pos (by simp; omega)]
    have HF := Lib.hid hfin
    have HT := Lib.hid ht
    have hne : (er != 0) = true := by rw [bne_iff_ne]; omega
    clear hfin ht her
    go_enter Try.func66, Try.ntmps66
    go_wp2_with fail
    refine (take_as HT.out hs _).mono ?_
    rintro e w1 ⟨rfl, hb⟩
    go_wp2
    go_ret3
    exact ⟨by rw [HF.out]; rfl, hb⟩

theorem natR_len (s : ByteArray) : natR (s.size : Int) = (natB s.size, 0) := by
  unfold natR; rw [if_neg (by omega)]; simp

set_option maxRecDepth 100000 in
set_option maxHeartbeats 400000 in
theorem bytes_any (s : ByteArray) (hs : s.size ≤ 140737488351232) (w : World) :
    Calls Try.prog 64 #[.string s] w fun e w' => e = .returned (.string (bs (bytesB s.data.toList))) ∧ Below w.heap.size w w' := by
  obtain ⟨i0, hi0, hz0, hz1, hz2⟩ := info_parts info_u8
  have hl9 := natB_len9 (n := s.size) (by omega)
  go_enter Try.func64, Try.ntmps64
  go_wp2_with fail
  refine (appendNat_any w.heap.size _ 0 [] s.size _ (World.ownsRow_nil _ _ _ _) (Nat.le_refl _) (by omega) (by omega)).mono ?_
  rintro e w1 ⟨v1, rfl, ho, hb⟩
  rw [List.nil_append, Nat.zero_add] at ho
  go_wp2_with (at_builtin; refine Lib.wpList_append_own_string _ rfl (.tmp 5) (.tmp 6) 48 9 rfl w.heap.size 5 i0 Try.underlying48 Try.underlying9 hi0 hz0 hz1 hz2 _ _ _ rfl ho s rfl ?c3 ?c4 ?c5 ?_)
  case c3 => unfold maxLen; omega
  case c4 => omega
  case c5 => exact hb.size
  intro v2 w2 hown2 hg2 _
  have ho2 : w2.ownsRow w.heap.size 5 1 v2 ((natB s.size).length + s.size) (u8s (bytesB s.data.toList)) := by
    unfold bytesB
    rw [u8s_append]
    exact hown2
  have hcv := own_string ho2
  go_wp2
  go_ret
  exact ⟨rfl, hb.grown hg2 hb.size (fun q hq => (ho.lt q hq).1)⟩

end Go.Proofs.Ytphnimmhjnhajaa.V1

/-
  Layer 1: what a right program answers (awake), and the laws of numbers and of numbers with signs.
-/
namespace Go.Proofs.Ytphnimmhjnhajaa.V1
open Go.RowKit Go.PlainAid

theorem nat_as {n : Int} {l : List UInt8} {x : Int} (h : natR n = (l, x)) (hn : n ≤ 9223372036854775807) (w : World) :
    Calls Try.prog 37 #[.int .i64 n] w fun e w' => e = .returned (.tuple #[.string (bs l), .int .i64 x]) ∧ Below w.heap.size w w' := by
  have := nat_any n hn w
  rw [h] at this
  exact this

theorem takeBytes_as {s : ByteArray} {t r : List UInt8} {e : Int} (h : takeBytes s.data.toList = (t, r, e)) (hs : s.size ≤ 9223372036854775807) (w : World) :
    Calls Try.prog 66 #[.string s] w fun x w' => x = .returned (.tuple #[.string (bs t), .string (bs r), .int .i64 e]) ∧ Below w.heap.size w w' := by
  have := takeBytes_any s hs w
  rw [h] at this
  exact this

end Go.Proofs.Ytphnimmhjnhajaa.V1

/-
  Layer 1, walks: lists of numbers, put.
-/
namespace Go.Proofs.Ytphnimmhjnhajaa.V1
open Go.RowKit Go.PlainAid

/-- A5's answer. -/
def natsR (zs : List Int) : List UInt8 × Int := if zs.all (fun z => decide (0 ≤ z)) then (listB (zs.map Int.toNat), 0) else ([], 1)

/-- What is put behind k numbers. -/
def pre (zs : List Int) (k : Nat) : List UInt8 := natB zs.length ++ (((zs.take k).map Int.toNat).map natB).flatten

theorem pre_zero (zs : List Int) : pre zs 0 = natB zs.length := by simp [pre]
theorem pre_end (zs : List Int) : pre zs zs.length = listB (zs.map Int.toNat) := by simp [pre, listB]
theorem pre_succ (zs : List Int) (k : Nat) (hk : k < zs.length) : pre zs (k + 1) = pre zs k ++ natB zs[k].toNat := by
  unfold pre
  rw [List.take_succ_eq_append_getElem hk]
  simp only [List.map_append, List.flatten_append, List.map_cons, List.map_nil, List.flatten_cons, List.flatten_nil, List.append_nil, List.append_assoc]
theorem flat_le9 : ∀ (l : List Nat), (∀ n ∈ l, n ≤ 9223372036854775807) → ((l.map natB).flatten).length ≤ 9 * l.length := by
  intro l
  induction l with
  | nil => simp
  | cons n l ih =>
    intro h
    have h1 := natB_len9 (h n (by simp))
    have h2 := ih (fun m hm => h m (by simp [hm]))
    simp at h2 ⊢; omega
theorem pre_len (zs : List Int) (k : Nat) (hz : ∀ z ∈ zs, z ≤ 9223372036854775807) (hn : zs.length ≤ 1000000) : (pre zs k).length ≤ 9000009 := by
  have h1 := natB_len9 (n := zs.length) (by omega)
  have h2 := flat_le9 ((zs.take k).map Int.toNat) (fun n hn => by
    obtain ⟨z, hz1, rfl⟩ := List.mem_map.1 hn
    have := hz z (List.mem_of_mem_take hz1)
    omega)
  simp only [pre, List.length_append]
  have : ((zs.take k).map Int.toNat).length ≤ zs.length := by simp [List.length_take]; omega
  omega

theorem natsR_ok {zs : List Int} (h : ∀ z ∈ zs.take zs.length, 0 ≤ z) : natsR zs = (pre zs zs.length, 0) := by
  unfold natsR
  rw [List.take_length] at h
  rw [if_pos (by simpa using h), pre_end]
theorem natsR_bad {zs : List Int} {k : Nat} (hk : k < zs.length) (h : zs[k] < 0) : natsR zs = ([], 1) := by
  unfold natsR
  rw [if_neg]
  simp only [List.all_eq_true, decide_eq_true_eq]
  intro hall
  have := hall zs[k] (List.getElem_mem hk)
  omega

def NatsRel (B : Nat) (zs : List Int) (w : World) (b i : Value) (wr : World) : Prop :=
  ∃ k : Nat, k ≤ zs.length ∧ i = .int .i64 (k : Int) ∧ (∀ z ∈ zs.take k, 0 ≤ z) ∧ wr.ownsRow B 5 1 b (pre zs k).length (u8s (pre zs k)) ∧ Below B w wr

theorem take_on {zs : List Int} {k : Nat} (hk : k < zs.length) (h : ∀ z ∈ zs.take k, 0 ≤ z) (h2 : 0 ≤ zs[k]) : ∀ z ∈ zs.take (k + 1), 0 ≤ z := by
  rw [List.take_succ_eq_append_getElem hk]
  intro z hz
  rcases List.mem_append.1 hz with hz | hz
  · exact h z hz
  · simp at hz; omega

theorem int_get {zs : List Int} {k : Nat} (h : k < (zs.map (Value.int .i64)).length) : (zs.map (Value.int .i64))[k] = .int .i64 (zs[k]'(by simpa using h)) := by simp

set_option maxRecDepth 100000 in
set_option maxHeartbeats 400000 in
theorem nats_any (A : Option Addr) (n cap : Nat) (zs : List Int) (w : World) (hr : Rd w A (zs.map (Value.int .i64))) (hn : zs.length = n) (hle : n ≤ 1000000)
    (hz : ∀ z ∈ zs, z ≤ 9223372036854775807) :
    Calls Try.prog 38 #[.slice A n cap] w fun e w' => e = .returned (.tuple #[.string (bs (natsR zs).1), .int .i64 (natsR zs).2]) ∧ Below w.heap.size w w' := by
  subst hn
  have HZ := Lib.hid hz
  have HR := Lib.hid hr
  clear hz hr
  have hB : w.heap.size ≤ w.heap.size := Nat.le_refl _
  go_enter Try.func38, Try.ntmps38
  go_wp2_with fail
  refine (appendNat_any w.heap.size _ 0 [] zs.length _ (World.ownsRow_nil _ _ _ _) (Nat.le_refl _) (by omega) (by omega)).mono ?_
  rintro e w1 ⟨v1, rfl, ho, hb⟩
  rw [List.nil_append, Nat.zero_add, ← pre_zero] at ho
  have HO := Lib.hid ho
  clear ho
  go_wp2
  go_loopw [4, 12] (fun b i wr => NatsRel w.heap.size zs w b i wr) (fun _ i _ => zs.length - (intOf i).toNat)
  case atStart => exact ⟨0, by omega, rfl, by simp, HO.out, hb⟩
  case round =>
    obtain ⟨k, hk, rfl, hpos, ho, hbw⟩ := hrel
    have hpl := pre_len zs k HZ.out hle
    have HO2 := Lib.hid ho
    have HP := Lib.hid hpos
    clear hpos ho HO
    by_cases hlt : k < zs.length
    · have hrd := HR.out.keep hbw
      obtain ⟨b, off, rfl, hbl, hc⟩ := hrd.get (k := k) (by simpa using hlt)
      rw [int_get] at hc
      have hzk := HZ.out zs[k] (List.getElem_mem hlt)
      clear hrd
      by_cases hneg : zs[k] < 0
      · have HF := Lib.hid (natsR_bad hlt hneg)
        go_wp2
        go_ret2
        exact ⟨by rw [HF.out]; rfl, hbw⟩
      · obtain ⟨z, hzz⟩ := Int.eq_ofNat_of_zero_le (show 0 ≤ zs[k] by omega)
        have HT := Lib.hid (take_on hlt HP.out (by omega))
        have HE := Lib.hid (pre_succ zs k hlt)
        have HZZ := Lib.hid hzz
        rw [hzz] at hc hzk
        clear hzz hneg
        go_wp2_with fail
        refine (appendNat_any w.heap.size _ _ _ z _ HO2.out hbw.size (by omega) (by omega)).mono ?_
        rintro e w2 ⟨v2, rfl, ho2, hb2⟩
        go_wp2
        go_roundw
        case rel =>
          refine ⟨k + 1, by omega, by go_num, HT.out, ?_, hbw.trans hb2⟩
          rw [HE.out, HZZ.out, u8s_append, List.length_append]
          exact ho2
        case measure => simp [intOf]; omega
    · obtain rfl : k = zs.length := by omega
      have HF := Lib.hid (natsR_ok HP.out)
      have hcv := own_string HO2.out
      go_wp2
      go_ret2
      exact ⟨by rw [HF.out]; rfl, hbw⟩

theorem natR_nat (n : Nat) : natR (n : Int) = (natB n, 0) := by
  unfold natR; rw [if_neg (by omega)]; simp
theorem natR_neg {n : Int} (h : n < 0) : natR n = ([], 1) := by
  unfold natR; rw [if_pos h]

def RNatsRel (zs : List Int) (w : World) (b i : Value) (wr : World) : Prop :=
  ∃ k : Nat, k ≤ zs.length ∧ i = .int .i64 (k : Int) ∧ (∀ z ∈ zs.take k, 0 ≤ z) ∧ b = .string (bs (pre zs k)) ∧ Below w.heap.size w wr

set_option maxRecDepth 100000 in
set_option maxHeartbeats 400000 in
theorem same_any (A B : Option Addr) (n c d : Nat) (zs : List Int) (w : World) (ha : Rd w A (zs.map (Value.int .i64))) (hb : Rd w B (zs.map (Value.int .i64))) (hn : zs.length = n) (hle : n ≤ 1000000) :
    Calls Try.prog 16 #[.slice A n c, .slice B n d] w fun e w' => e = .returned (.bool true) ∧ Below w.heap.size w w' := by
  subst hn
  have HA := Lib.hid ha
  have HB := Lib.hid hb
  clear ha hb
  go_enter Try.func16, Try.ntmps16
  go_wp2
  go_loopw [5] (fun i wr => ∃ k : Nat, k ≤ zs.length ∧ i = .int .i64 (k : Int) ∧ Below w.heap.size w wr) (fun i _ => zs.length - (intOf i).toNat)
  case atStart => exact ⟨0, by omega, rfl, Below.refl _ _⟩
  case round =>
    obtain ⟨k, hk, rfl, hbw⟩ := hrel
    by_cases hlt : k < zs.length
    · have h1 := HA.out.keep hbw
      have h2 := HB.out.keep hbw
      obtain ⟨b, off, rfl, hbl, hc⟩ := h1.get (k := k) (by simpa using hlt)
      obtain ⟨b', off', rfl, hbl', hc'⟩ := h2.get (k := k) (by simpa using hlt)
      rw [int_get] at hc hc'
      clear h1 h2
      go_wp2
      go_quiet (fail)
      go_wp2
      go_roundw
      case rel => exact ⟨k + 1, by omega, by go_num, below_drewN hbw nq⟩
      case measure => simp [intOf]; omega
    · obtain rfl : k = zs.length := by omega
      go_wp2
      go_ret
      exact ⟨rfl, hbw⟩

end Go.Proofs.Ytphnimmhjnhajaa.V1

/-
  Layer 1, walks: lists of numbers, taken.
-/
namespace Go.Proofs.Ytphnimmhjnhajaa.V1
open Go.RowKit Go.PlainAid

def TNRel (s : ByteArray) (m : Nat) (w : World) (v rest i : Value) (wr : World) : Prop :=
  ∃ (k : Nat) (acc : List Nat) (r : List UInt8), k ≤ m ∧ i = .int .i64 (k : Int) ∧ rest = .string (bs r) ∧ r.length ≤ s.size ∧ wr.ownsRow w.heap.size 3 1 v k (ints acc) ∧
    takeNats s.data.toList = takeMany (m - k) r acc ∧ Below w.heap.size w wr

theorem many_stop {l r : List UInt8} {m k : Nat} {acc : List Nat} {e : Int} (h : takeNats l = takeMany (m - k) r acc) (hk : k < m) (ht : take r = (0, [], e)) (he : e = 10 ∨ e = 11) :
    takeNats l = ([], [], e) := by
  rw [h, show m - k = (m - k - 1) + 1 by omega, takeMany, ht, if_pos (by simp; omega)]
theorem many_on {l r r' : List UInt8} {m k n : Nat} {acc : List Nat} (h : takeNats l = takeMany (m - k) r acc) (hk : k < m) (ht : take r = (n, r', 0)) :
    takeNats l = takeMany (m - (k + 1)) r' (acc ++ [n]) := by
  rw [h, show m - k = (m - (k + 1)) + 1 by omega, takeMany, ht, if_neg (by simp)]
theorem many_end {l r : List UInt8} {m : Nat} {acc : List Nat} (h : takeNats l = takeMany (m - m) r acc) : takeNats l = (acc, r, 0) := by
  rw [h, Nat.sub_self, takeMany]

def TNPost (s : ByteArray) (w : World) (e : Ending) (w' : World) : Prop :=
  ∃ v, e = .returned (.tuple #[v, .string (bs (takeNats s.data.toList).2.1), .int .i64 (takeNats s.data.toList).2.2]) ∧
    w'.ownsRow w.heap.size 3 1 v (takeNats s.data.toList).1.length (ints (takeNats s.data.toList).1) ∧ Below w.heap.size w w'

theorem TNPost.bad {s : ByteArray} {w w' : World} {er : Int} (h : takeNats s.data.toList = ([], [], er)) (hb : Below w.heap.size w w') :
    TNPost s w (.returned (.tuple #[.slice none 0 0, .string ⟨#[]⟩, .int .i64 er])) w' := by
  unfold TNPost
  rw [h]
  exact ⟨_, rfl, World.ownsRow_nil _ _ _ _, hb⟩
theorem TNPost.good {s : ByteArray} {w w' : World} {acc : List Nat} {r : List UInt8} {k : Nat} {v : Value} (h : takeNats s.data.toList = (acc, r, 0)) (ho : w'.ownsRow w.heap.size 3 1 v k (ints acc))
    (hb : Below w.heap.size w w') : TNPost s w (.returned (.tuple #[v, .string (bs r), .int .i64 0])) w' := by
  unfold TNPost
  rw [h]
  have hk : acc.length = k := by have := ho.1; rw [ints_len] at this; omega
  subst hk
  exact ⟨v, rfl, ho, hb⟩

set_option maxRecDepth 100000 in
set_option maxHeartbeats 600000 in
theorem takeNats_any (s : ByteArray) (hs : s.size ≤ 9223372036854775807) (hc : (take s.data.toList).1 ≤ 1000000 ∨ s.size ≤ 1000000) (w : World) :
    Calls Try.prog 47 #[.string s] w (TNPost s w) := by
  obtain ⟨i0, hi0, hz0, hz1, hz2⟩ := info_parts info_int
  rcases take_shape s.data.toList with ⟨m, r0, ht, hm, hr0⟩ | ⟨er, ht, her⟩
  · have HT := Lib.hid ht
    have hl0 : s.data.toList.length = s.size := rfl
    rw [hl0] at hr0
    have hsr : (bs r0).size ≤ 9223372036854775807 := by rw [bs_size]; omega
    have hc2 : m ≤ 1000000 ∨ s.size ≤ 1000000 := by rw [ht] at hc; exact hc
    clear ht hl0 hc
    by_cases hlt : (bs r0).size < m
    · have hfin : takeNats s.data.toList = ([], [], 10) := by
        unfold takeNats; rw [HT.out]; rw [bs_size] at hlt; simp [hlt]
      have HF := Lib.hid hfin
      clear hfin hc2
      go_enter Try.func47, Try.ntmps47
      go_wp2_with fail
      refine (take_as HT.out (by omega) _).mono ?_
      rintro e w1 ⟨rfl, hb⟩
      go_wp2
      go_ret3
      exact TNPost.bad HF.out hb
    · have hfin : takeNats s.data.toList = takeMany (m - 0) r0 [] := by
        unfold takeNats; rw [HT.out]; rw [bs_size] at hlt; simp [hlt]
      have HF := Lib.hid hfin
      have hm2 : m ≤ 1000000 := by rw [bs_size] at hlt; omega
      clear hc2
      clear hfin
      go_enter Try.func47, Try.ntmps47
      go_wp2_with fail
      refine (take_as HT.out (by omega) _).mono ?_
      rintro e w1 ⟨rfl, hb⟩
      go_wp2
      go_loopw [2, 3, 21] (fun v rest i wr => TNRel s m w v rest i wr) (fun v rest i _ => m - (intOf i).toNat)
      case atStart => exact ⟨0, [], r0, by omega, rfl, rfl, hr0, World.ownsRow_nil _ _ _ _, HF.out, hb⟩
      case round =>
        obtain ⟨k, acc, r, hk, rfl, rfl, hr, ho, htn, hbw⟩ := hrel
        have HO := Lib.hid ho
        have HTN := Lib.hid htn
        clear htn HF
        by_cases hkm : k < m
        · rcases take_shape r with ⟨n, r2, ht2, hn2, hr2⟩ | ⟨er, ht2, her⟩
          · have HT2 := Lib.hid ht2
            have HON := Lib.hid (many_on HTN.out hkm ht2)
            clear ht2
            go_wp2_with fail
            refine (take_as (s := bs r) HT2.out (by rw [bs_size]; omega) _).mono ?_
            rintro e w2 ⟨rfl, hb2⟩
            have ho2 := own_keep HO.out hb2
            go_wp2_with (at_builtin; refine wpList_append_own _ rfl (.tmp 32) (.tmp 34) 24 rfl w.heap.size 3 i0 (.int .i64 0) 1 8 Try.underlying24 hi0 hz0 hz1 hz2 rfl (by decide) _ _ _ rfl (ho2.alloc _) ⟨w2.heap.size, 0, none⟩ 1 1 [.int .i64 (n : Int)] rfl rfl ?c1 ?c2 ?c3 ?c4 ?c5 ?_)
            case c1 => exact cell_one_new _ _ _
            case c2 => simp [Value.oneCell']
            case c3 => unfold maxLen; omega
            case c4 => omega
            case c5 => have := hbw.size; have := hb2.size; simp; omega
            intro v1 w3 hown1 hg1 _
            go_wp2
            go_roundw
            case rel =>
              refine ⟨k + 1, acc ++ [n], r2, by omega, by go_num, rfl, by omega, ?_, HON.out, ?_⟩
              · rw [ints_snoc]; exact hown1
              · have hbB : w.heap.size ≤ w2.heap.size := by have := hbw.size; have := hb2.size; omega
                exact ((hbw.trans (hb2.mono hbw.size)).alloc hbB _).grown hg1 (by simp; omega) (fun q hq => (ho2.lt q hq).1)
            case measure => simp [intOf]; omega
          · have HT2 := Lib.hid ht2
            have hne : (er != 0) = true := by rw [bne_iff_ne]; omega
            have HF2 := Lib.hid (many_stop HTN.out hkm ht2 her)
            clear ht2 her
            go_wp2_with fail
            refine (take_as (s := bs r) HT2.out (by rw [bs_size]; omega) _).mono ?_
            rintro e w2 ⟨rfl, hb2⟩
            go_wp2
            go_ret3
            exact TNPost.bad HF2.out (hbw.trans (hb2.mono hbw.size))
        · obtain rfl : k = m := by omega
          have HF2 := Lib.hid (many_end HTN.out)
          go_wp2
          go_ret3
          exact TNPost.good HF2.out HO.out hbw
  · have hfin : takeNats s.data.toList = ([], [], er) := by
      unfold takeNats; rw [ht]; rw [if_pos (by simp; omega)]
    have HF := Lib.hid hfin
    have HT := Lib.hid ht
    have hne : (er != 0) = true := by rw [bne_iff_ne]; omega
    clear hfin ht her hc
    go_enter Try.func47, Try.ntmps47
    go_wp2_with fail
    refine (take_as HT.out (by omega) _).mono ?_
    rintro e w1 ⟨rfl, hb⟩
    go_wp2
    go_ret3
    exact TNPost.bad HF.out hb

end Go.Proofs.Ytphnimmhjnhajaa.V1
