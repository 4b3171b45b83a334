/-
  Layer 5, walks: the merged vector and the met one, the program's and the document's.
-/
import Derived.Test.YticiolhfoeenmaaDoorS5e
import Derived.Shelf.Abstract
namespace Go.Proofs.YticiolhfoeenmaaDoor.S5
open Go.RowKit Go.PlainAid Go.Shelf M5
set_option linter.unusedVariables false

/-- WHAT THE DOCUMENT's LOOPS KEEP: the list so far. -/
def GrowRel (F : Nat → List Int) (x B : Nat) (w : World) (v i : Value) (wr : World) : Prop :=
  ∃ k : Nat, k ≤ x ∧ i = .int .i64 ((k : Int) + 1) ∧ wr.ownsRow B 3 1 v k (is (F k)) ∧ Below B w wr
theorem GrowRel.step {F : Nat → List Int} {x B k : Nat} {w wr w1 : World} {v v1 : Value} {y : Int} (hB : B ≤ wr.heap.size) (hk : k < x) (hF : F (k + 1) = F k ++ [y]) (ho : wr.ownsRow B 3 1 v k (is (F k))) (hb : Below B w wr)
    (h1 : w1.ownsRow B 3 1 v1 (k + 1) (is (F k) ++ [.int .i64 y])) (o : Obj) (hg : (wr.alloc o).grownBy w1 v.ownBlock) : GrowRel F x B w v1 (.int .i64 ((k : Int) + 1 + 1)) w1 := by
  refine ⟨k + 1, by omega, by go_num, ?_, (hb.alloc hB o).grown hg (by simp; omega) (fun q hq => (ho.lt q hq).1)⟩
  rw [hF, is_snoc]
  exact h1

set_option maxRecDepth 100000 in
set_option maxHeartbeats 400000 in
theorem Merge1_any (a b : Int) (w : World) : Calls Tryd.prog 52 #[.int .i64 a, .int .i64 b] w fun e w' => e = .returned (.int .i64 (max a b)) ∧ w = w' := by
  rcases Int.lt_trichotomy a b with h | h | h
  · have HF : Hid (max a b = b) := by show _ = _; omega
    go_enter Tryd.func52, Tryd.ntmps52
    go_wp2
    go_ret
    exact ⟨by rw [HF.out]; rfl, rfl⟩
  · subst h
    have HF : Hid (max a a = a) := by show _ = _; omega
    go_enter Tryd.func52, Tryd.ntmps52
    go_wp2
    go_ret
    exact ⟨by rw [HF.out]; rfl, rfl⟩
  · have HF : Hid (max a b = a) := by show _ = _; omega
    go_enter Tryd.func52, Tryd.ntmps52
    go_wp2
    go_ret
    exact ⟨by rw [HF.out]; rfl, rfl⟩

set_option maxRecDepth 100000 in
set_option maxHeartbeats 400000 in
theorem merge_any (A B : Option Addr) (n m c d : Nat) (v u : List Int) (w : World) (hv : Rd w A (is v)) (hu : Rd w B (is u)) (hn : v.length = n) (hm : u.length = m) (hle : n ≤ 1000000000) (hlm : m ≤ 1000000000) :
    Calls Tryd.prog 34 #[.slice A n c, .slice B m d] w fun e w' => ∃ C k q, e = .returned (.slice C k q) ∧ Rd w' C (is (mergeL v u)) ∧ (mergeL v u).length = k ∧ Below w.heap.size w w' := by
  have HT := Lib.hid (together_any max 52 A B n m c d v u w hv hu hn hm hle hlm (enters_of Tryd.func52 (by kernel_rfl) rfl) Merge1_any)
  clear hv hu hn hm
  go_enter Tryd.func34, Tryd.ntmps34
  go_wp2_with fail
  refine (HT.out).mono ?_
  rintro e w1 ⟨C, k, q, rfl, hr, hl, hb⟩
  have HR := Lib.hid hr
  have HL := Lib.hid hl
  clear hr hl
  go_wp2
  go_ret
  exact ⟨_, _, _, rfl, HR.out, HL.out, hb⟩

set_option maxRecDepth 100000 in
set_option maxHeartbeats 2000000 in
theorem refMerge_any (A B : Option Addr) (n m c d : Nat) (v u : List Int) (w : World) (hv : Rd w A (is v)) (hu : Rd w B (is u)) (hn : v.length = n) (hm : u.length = m) (hle : n ≤ 1000000000) (hlm : m ≤ 1000000000) :
    Calls Tryd.prog 35 #[.slice A n c, .slice B m d] w fun e w' => ∃ C k q, e = .returned (.slice C k q) ∧ Rd w' C (is (mergeL v u)) ∧ (mergeL v u).length = k ∧ Below w.heap.size w w' := by
  obtain ⟨i0, hi0, hz0, hz1, hz2⟩ := info_parts info_int
  have HV := Lib.hid hv
  have HU := Lib.hid hu
  have HN := Lib.hid hn
  have HM := Lib.hid hm
  obtain ⟨x, hx1, hx2, hx3, hx4⟩ : ∃ x : Nat, x = max n m ∧ n ≤ x ∧ m ≤ x ∧ ((n < m ∧ x ≤ m) ∨ (m < n ∧ x ≤ n) ∨ (n ≤ m ∧ m ≤ n ∧ x ≤ n)) := ⟨max n m, rfl, by omega, by omega, by omega⟩
  have HX : Hid (plainL (zipN max v u x) = mergeL v u) := by show _ = _; unfold mergeL togL; rw [hn, hm, ← hx1]
  have hxl : x ≤ 1000000000 := by omega
  have h0 : GrowRel (zipN max v u) x w.heap.size w (.slice none 0 0) (.int .i64 1) w := ⟨0, by omega, rfl, World.ownsRow_nil _ _ _ _, Below.refl _ _⟩
  have H0 := Lib.hid h0
  clear hv hu hn hm hx1 h0
  rcases hx4 with ⟨h1, h2⟩ | ⟨h1, h2⟩ | ⟨h1, h2, h3⟩
  all_goals
    go_enter Tryd.func35, Tryd.ntmps35
    go_wp2
    go_loopw [5, 6] (fun v0 i wr => GrowRel (zipN max v u) x w.heap.size w v0 i wr) (fun _ i _ => x + 1 - (intOf i).toNat)
    case atStart => exact H0.out
    case round =>
      clear H0
      obtain ⟨k, hk, rfl, ho, hb⟩ := hrel
      have hB : w.heap.size ≤ wr.heap.size := hb.size
      by_cases hlt : k < x
      · have HA := Lib.hid (atL_succ v k)
        have HB := Lib.hid (atL_succ u k)
        have hr1 := Lib.hid (HV.out.keep hb)
        have hr2 := Lib.hid (HU.out.keep hb)
        have HS := Lib.hid (zipN_snoc max v u k)
        go_wp2_with fail
        refine (refAt_any A n c v ((k : Int) + 1) _ hr1.out HN.out hle (by omega)).mono ?_
        rintro e w2 ⟨rfl, rfl⟩
        go_wp2_with fail
        refine (refAt_any B m d u ((k : Int) + 1) _ hr2.out HM.out hlm (by omega)).mono ?_
        rintro e w2 ⟨rfl, rfl⟩
        rw [HA.out, HB.out]
        obtain ⟨a, ha⟩ : ∃ a, a = v.getD k 0 := ⟨_, rfl⟩
        obtain ⟨b, hbb⟩ : ∃ b, b = u.getD k 0 := ⟨_, rfl⟩
        rw [← ha, ← hbb] at HS
        rw [← ha, ← hbb]
        clear ha hbb
        obtain ⟨y, hy, hyc⟩ : ∃ y, y = max a b ∧ ((a < b ∧ y = b) ∨ (b < a ∧ y = a) ∨ (a = b ∧ y = b)) := ⟨max a b, rfl, by omega⟩
        rw [← hy] at HS
        clear hy
        rcases hyc with ⟨hab, rfl⟩ | ⟨hab, rfl⟩ | ⟨hab, rfl⟩
        all_goals try subst hab
        all_goals
          go_wp2_with (at_builtin; refine wpList_append_own _ rfl (.tmp 16) (.tmp 24) 36 rfl w.heap.size 3 i0 (.int .i64 0) 1 8 Tryd.underlying36 hi0 hz0 hz1 hz2 rfl (by decide) _ _ _ rfl (ho.alloc _) ⟨wr.heap.size, 0, none⟩ 1 1 _ rfl rfl (cell_one_new _ _ _) (by simp [Value.oneCell']) (by unfold maxLen; omega) (by omega) (by simp; omega) ?_)
          intro v1 w2 hown1 hg1 _
          have HR := Lib.hid (GrowRel.step hB hlt HS.out ho hb hown1 _ hg1)
          clear hown1 hg1
          go_wp2
          go_roundw
          case rel => exact HR.out
          case measure => simp [intOf]; omega
      · obtain rfl : k = x := by omega
        obtain ⟨C, q, rfl, hrd, _⟩ := Rd.of_own ho
        have hkq : k ≤ q ∧ q ≤ maxLen := by
          rcases ho.2 with ⟨h', h0⟩ | ⟨g, cap, cur, h', _, _, hnc, hcm, _⟩
          · injection h' with e1 e2 e3; omega
          · injection h' with e1 e2 e3; omega
        have hq2 : q ≤ 9223372036854775807 := by have := hkq.2; unfold maxLen at this; omega
        have HRD := Lib.hid hrd
        have HBW := Lib.hid hb
        clear ho hb hrd
        go_wp2_with fail
        refine (refPlain_any C k q (zipN max v u k) _ HRD.out (zipN_len _ _ _ _) hkq.1 hq2 (by omega)).mono ?_
        rintro e w2 ⟨j, rfl, hr, hl, rfl⟩
        rw [HX.out] at hr hl
        have HR := Lib.hid hr
        have HL := Lib.hid hl
        clear hr hl
        go_wp2
        go_ret
        exact ⟨_, _, _, rfl, HR.out, HL.out, HBW.out⟩

set_option maxRecDepth 100000 in
set_option maxHeartbeats 400000 in
theorem Meet1_any (a b : Int) (w : World) : Calls Tryd.prog 53 #[.int .i64 a, .int .i64 b] w fun e w' => e = .returned (.int .i64 (min a b)) ∧ w = w' := by
  rcases Int.lt_trichotomy a b with h | h | h
  · have HF : Hid (min a b = a) := by show _ = _; omega
    go_enter Tryd.func53, Tryd.ntmps53
    go_wp2
    go_ret
    exact ⟨by rw [HF.out]; rfl, rfl⟩
  · subst h
    have HF : Hid (min a a = a) := by show _ = _; omega
    go_enter Tryd.func53, Tryd.ntmps53
    go_wp2
    go_ret
    exact ⟨by rw [HF.out]; rfl, rfl⟩
  · have HF : Hid (min a b = b) := by show _ = _; omega
    go_enter Tryd.func53, Tryd.ntmps53
    go_wp2
    go_ret
    exact ⟨by rw [HF.out]; rfl, rfl⟩

set_option maxRecDepth 100000 in
set_option maxHeartbeats 400000 in
theorem meet_any (A B : Option Addr) (n m c d : Nat) (v u : List Int) (w : World) (hv : Rd w A (is v)) (hu : Rd w B (is u)) (hn : v.length = n) (hm : u.length = m) (hle : n ≤ 1000000000) (hlm : m ≤ 1000000000) :
    Calls Tryd.prog 36 #[.slice A n c, .slice B m d] w fun e w' => ∃ C k q, e = .returned (.slice C k q) ∧ Rd w' C (is (meetL v u)) ∧ (meetL v u).length = k ∧ Below w.heap.size w w' := by
  have HT := Lib.hid (together_any min 53 A B n m c d v u w hv hu hn hm hle hlm (enters_of Tryd.func53 (by kernel_rfl) rfl) Meet1_any)
  clear hv hu hn hm
  go_enter Tryd.func36, Tryd.ntmps36
  go_wp2_with fail
  refine (HT.out).mono ?_
  rintro e w1 ⟨C, k, q, rfl, hr, hl, hb⟩
  have HR := Lib.hid hr
  have HL := Lib.hid hl
  clear hr hl
  go_wp2
  go_ret
  exact ⟨_, _, _, rfl, HR.out, HL.out, hb⟩

set_option maxRecDepth 100000 in
set_option maxHeartbeats 2000000 in
theorem refMeet_any (A B : Option Addr) (n m c d : Nat) (v u : List Int) (w : World) (hv : Rd w A (is v)) (hu : Rd w B (is u)) (hn : v.length = n) (hm : u.length = m) (hle : n ≤ 1000000000) (hlm : m ≤ 1000000000) :
    Calls Tryd.prog 37 #[.slice A n c, .slice B m d] w fun e w' => ∃ C k q, e = .returned (.slice C k q) ∧ Rd w' C (is (meetL v u)) ∧ (meetL v u).length = k ∧ Below w.heap.size w w' := by
  obtain ⟨i0, hi0, hz0, hz1, hz2⟩ := info_parts info_int
  have HV := Lib.hid hv
  have HU := Lib.hid hu
  have HN := Lib.hid hn
  have HM := Lib.hid hm
  obtain ⟨x, hx1, hx2, hx3, hx4⟩ : ∃ x : Nat, x = max n m ∧ n ≤ x ∧ m ≤ x ∧ ((n < m ∧ x ≤ m) ∨ (m < n ∧ x ≤ n) ∨ (n ≤ m ∧ m ≤ n ∧ x ≤ n)) := ⟨max n m, rfl, by omega, by omega, by omega⟩
  have HX : Hid (plainL (zipN min v u x) = meetL v u) := by show _ = _; unfold meetL togL; rw [hn, hm, ← hx1]
  have hxl : x ≤ 1000000000 := by omega
  have h0 : GrowRel (zipN min v u) x w.heap.size w (.slice none 0 0) (.int .i64 1) w := ⟨0, by omega, rfl, World.ownsRow_nil _ _ _ _, Below.refl _ _⟩
  have H0 := Lib.hid h0
  clear hv hu hn hm hx1 h0
  rcases hx4 with ⟨h1, h2⟩ | ⟨h1, h2⟩ | ⟨h1, h2, h3⟩
  all_goals
    go_enter Tryd.func37, Tryd.ntmps37
    go_wp2
    go_loopw [5, 6] (fun v0 i wr => GrowRel (zipN min v u) x w.heap.size w v0 i wr) (fun _ i _ => x + 1 - (intOf i).toNat)
    case atStart => exact H0.out
    case round =>
      clear H0
      obtain ⟨k, hk, rfl, ho, hb⟩ := hrel
      have hB : w.heap.size ≤ wr.heap.size := hb.size
      by_cases hlt : k < x
      · have HA := Lib.hid (atL_succ v k)
        have HB := Lib.hid (atL_succ u k)
        have hr1 := Lib.hid (HV.out.keep hb)
        have hr2 := Lib.hid (HU.out.keep hb)
        have HS := Lib.hid (zipN_snoc min v u k)
        go_wp2_with fail
        refine (refAt_any A n c v ((k : Int) + 1) _ hr1.out HN.out hle (by omega)).mono ?_
        rintro e w2 ⟨rfl, rfl⟩
        go_wp2_with fail
        refine (refAt_any B m d u ((k : Int) + 1) _ hr2.out HM.out hlm (by omega)).mono ?_
        rintro e w2 ⟨rfl, rfl⟩
        rw [HA.out, HB.out]
        obtain ⟨a, ha⟩ : ∃ a, a = v.getD k 0 := ⟨_, rfl⟩
        obtain ⟨b, hbb⟩ : ∃ b, b = u.getD k 0 := ⟨_, rfl⟩
        rw [← ha, ← hbb] at HS
        rw [← ha, ← hbb]
        clear ha hbb
        obtain ⟨y, hy, hyc⟩ : ∃ y, y = min a b ∧ ((a < b ∧ y = a) ∨ (b < a ∧ y = b) ∨ (a = b ∧ y = b)) := ⟨min a b, rfl, by omega⟩
        rw [← hy] at HS
        clear hy
        rcases hyc with ⟨hab, rfl⟩ | ⟨hab, rfl⟩ | ⟨hab, rfl⟩
        all_goals try subst hab
        all_goals
          go_wp2_with (at_builtin; refine wpList_append_own _ rfl (.tmp 16) (.tmp 24) 36 rfl w.heap.size 3 i0 (.int .i64 0) 1 8 Tryd.underlying36 hi0 hz0 hz1 hz2 rfl (by decide) _ _ _ rfl (ho.alloc _) ⟨wr.heap.size, 0, none⟩ 1 1 _ rfl rfl (cell_one_new _ _ _) (by simp [Value.oneCell']) (by unfold maxLen; omega) (by omega) (by simp; omega) ?_)
          intro v1 w2 hown1 hg1 _
          have HR := Lib.hid (GrowRel.step hB hlt HS.out ho hb hown1 _ hg1)
          clear hown1 hg1
          go_wp2
          go_roundw
          case rel => exact HR.out
          case measure => simp [intOf]; omega
      · obtain rfl : k = x := by omega
        obtain ⟨C, q, rfl, hrd, _⟩ := Rd.of_own ho
        have hkq : k ≤ q ∧ q ≤ maxLen := by
          rcases ho.2 with ⟨h', h0⟩ | ⟨g, cap, cur, h', _, _, hnc, hcm, _⟩
          · injection h' with e1 e2 e3; omega
          · injection h' with e1 e2 e3; omega
        have hq2 : q ≤ 9223372036854775807 := by have := hkq.2; unfold maxLen at this; omega
        have HRD := Lib.hid hrd
        have HBW := Lib.hid hb
        clear ho hb hrd
        go_wp2_with fail
        refine (refPlain_any C k q (zipN min v u k) _ HRD.out (zipN_len _ _ _ _) hkq.1 hq2 (by omega)).mono ?_
        rintro e w2 ⟨j, rfl, hr, hl, rfl⟩
        rw [HX.out] at hr hl
        have HR := Lib.hid hr
        have HL := Lib.hid hl
        clear hr hl
        go_wp2
        go_ret
        exact ⟨_, _, _, rfl, HR.out, HL.out, HBW.out⟩

end Go.Proofs.YticiolhfoeenmaaDoor.S5
