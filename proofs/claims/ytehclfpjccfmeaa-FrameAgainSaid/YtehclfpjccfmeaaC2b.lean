/-
  Layer 2, walks: the table.
-/
import Derived.Test.YtehclfpjccfmeaaC2a
import Derived.Test.YtehclfpjccfmeaaTx
namespace Go.Proofs.Ytehclfpjccfmeaa.C2
open Go.RowKit M2
set_option linter.unusedVariables false

def u32s (l : List Nat) : List Value := l.map fun (n : Nat) => Value.int .u32 (n : Int)
theorem u32s_len (l : List Nat) : (u32s l).length = l.length := by simp [u32s]
theorem info_u32 : (Try.prog.info? 42).map (fun i => (i.zero, i.size, i.bytes)) = some (some (.int .u32 0), 1, 4) := by kernel_rfl

/-- What of the table is laid when k numbers are. -/
def laid (k : Nat) : List Nat := tab.take k ++ List.replicate (256 - k) 0
theorem laid_len {k : Nat} (h : k ≤ 256) : (laid k).length = 256 := by
  have := tab_len
  simp [laid]; omega
theorem laid_zero : laid 0 = List.replicate 256 0 := rfl
theorem laid_all : laid 256 = tab := by
  unfold laid
  rw [List.take_of_length_le (by rw [tab_len]; exact Nat.le_refl _)]
  simp
theorem tab_snoc {k : Nat} (h : k < 256) : tab.take (k + 1) = tab.take k ++ [s8 k] := by
  rw [List.take_succ_eq_append_getElem (by rw [tab_len]; exact h)]
  congr 2
  have := tab_get h
  rw [List.getD_eq_getElem?_getD, List.getElem?_eq_getElem (by rw [tab_len]; exact h)] at this
  exact this
theorem laid_set {k : Nat} (h : k < 256) : (laid k).set k (s8 k) = laid (k + 1) := by
  have hl := tab_len
  unfold laid
  rw [tab_snoc h, List.set_append_right _ _ (by simp; omega)]
  have e1 : (tab.take k).length = k := by simp; omega
  rw [e1, Nat.sub_self, show 256 - k = (256 - (k + 1)) + 1 by omega, List.replicate_succ]
  simp

/-- WHAT THE LOOP OF Table KEEPS. -/
def TabRel (w : World) (g : Nat) (i : Value) (wr : World) : Prop :=
  ∃ k : Nat, k ≤ 256 ∧ i = .int .i64 (k : Int) ∧ wr.ownsRow w.heap.size 42 1 (.slice (some ⟨g, 0, none⟩) 256 256) 256 (u32s (laid k)) ∧ Below w.heap.size w wr

theorem TabRel.step {w wr : World} {g k : Nat} (hg : w.heap.size ≤ g) (hk : k < 256)
    (ho : wr.ownsRow w.heap.size 42 1 (.slice (some ⟨g, 0, none⟩) 256 256) 256 (u32s (laid k))) (hb : Below w.heap.size w wr) :
    TabRel w g (.int .i64 ((k : Int) + 1)) (wr.setCell ⟨g, k, none⟩ (.int .u32 ((s8 k : Nat) : Int))) := by
  refine ⟨k + 1, by omega, by go_num, ?_, hb.setCell (by exact hg) _⟩
  have := (ho.stored k (.int .u32 ((s8 k : Nat) : Int))).1
  rw [show (u32s (laid k)).set k (.int .u32 ((s8 k : Nat) : Int)) = u32s (laid (k + 1)) by rw [← laid_set hk]; simp [u32s, List.map_set]] at this
  exact this

theorem Rd.of_slice {w : World} {B : Nat} {e : TypeId} {g n c : Nat} {xs : List Value} (h : w.ownsRow B e 1 (.slice (some ⟨g, 0, none⟩) n c) n xs) : Rd w (some ⟨g, 0, none⟩) xs := by
  obtain ⟨A, c', hv, hr, _⟩ := Rd.of_own h
  cases hv
  exact hr

/-- WHAT THE LOOP OF THE DOCUMENT'S Table KEEPS. -/
def RefTabRel (B : Nat) (w : World) (v i : Value) (wr : World) : Prop :=
  ∃ k : Nat, k ≤ 256 ∧ i = .int .i64 (k : Int) ∧ wr.ownsRow B 42 1 v k (u32s (tab.take k)) ∧ Below B w wr

set_option maxRecDepth 100000 in
set_option maxHeartbeats 400000 in
theorem refTable_own (w : World) :
    Calls Try.prog 19 #[] w fun e w' => ∃ v, e = .returned v ∧ w'.ownsRow w.heap.size 42 1 v 256 (u32s tab) ∧ Below w.heap.size w w' := by
  obtain ⟨i0, hi0, hz0, hz1, hz2⟩ := info_parts info_u32
  have h0 : RefTabRel w.heap.size w (.slice none 0 0) (.int .i64 0) w := ⟨0, by omega, rfl, World.ownsRow_nil _ _ _ _, Below.refl _ _⟩
  have H0 := Lib.hid h0
  clear h0
  go_enter Try.func19, Try.ntmps19
  go_wp2
  go_loopw [1, 2] (fun v i wr => RefTabRel w.heap.size w v i wr) (fun _ i _ => 256 - (intOf i).toNat)
  case atStart => exact H0.out
  case round =>
    obtain ⟨k, hk, rfl, ho, hb⟩ := hrel
    clear H0
    by_cases hlt : k < 256
    · have hB : w.heap.size ≤ wr.heap.size := hb.size
      have hd : decide ((k : Int) < 256) = true := by simp; omega
      go_wp2
      go_loop [3, 4] (fun c j => ∃ m : Nat, m ≤ 8 ∧ j = .int .i64 (m : Int) ∧ c = .int .u32 ((fall m k : Nat) : Int)) (fun _ j => 8 - (intOf j).toNat)
      case atStart => exact ⟨0, by omega, rfl, rfl⟩
      case round =>
        obtain ⟨m, hm, rfl, rfl⟩ := hrel
        by_cases hm8 : m < 8
        · have HS := Lib.hid (fall_succ m k)
          have hl := fall_lt m (c := k) (by omega)
          go_wp2_with fail
          refine (refStep_any _ hl _).mono ?_
          rintro e w2 ⟨rfl, rfl⟩
          go_wp2
          go_round
          case rel => exact ⟨m + 1, by omega, by go_num, by rw [HS.out]⟩
          case measure => simp [intOf]; omega
        · obtain rfl : m = 8 := by omega
          have HT := Lib.hid (tab_snoc hlt)
          go_wp2_with (at_builtin; refine wpList_append_own _ rfl (.tmp 17) (.tmp 19) 23 rfl w.heap.size 42 i0 (.int .u32 0) 1 4 Try.underlying23 hi0 hz0 hz1 hz2 rfl (by decide) _ _ _ rfl (ho.alloc _) ⟨wr.heap.size, 0, none⟩ 1 1 [.int .u32 ((fall 8 k : Nat) : Int)] rfl rfl (cell_one_new _ _ _) ?c2 ?c3 ?c4 ?c5 ?_)
          case c2 => simp [Value.oneCell']
          case c3 => unfold maxLen; omega
          case c4 => omega
          case c5 => first | omega | (simp; omega)
          intro v1 w1 hown1 hg1 _
          go_wp2
          go_roundw
          case rel =>
            refine ⟨k + 1, by omega, by go_num, ?_, (hb.alloc hB _).grown hg1 (by simp; omega) (fun q hq => (ho.lt q hq).1)⟩
            rw [HT.out, show u32s (List.take k tab ++ [s8 k]) = u32s (List.take k tab) ++ [.int .u32 ((s8 k : Nat) : Int)] by simp [u32s]]
            exact hown1
          case measure => simp [intOf]; omega
    · obtain rfl : k = 256 := by omega
      rw [List.take_of_length_le (by rw [tab_len]; exact Nat.le_refl _)] at ho
      obtain ⟨A, c, rfl, hr, _⟩ := Rd.of_own ho
      go_wp2
      go_ret
      exact ⟨_, rfl, ho, hb⟩

theorem refTable_any (w : World) :
    Calls Try.prog 19 #[] w fun e w' => ∃ A c, e = .returned (.slice A 256 c) ∧ Rd w' A (u32s tab) ∧ Below w.heap.size w w' := by
  refine (refTable_own w).mono ?_
  rintro e w' ⟨v, rfl, ho, hb⟩
  obtain ⟨A, c, rfl, hr, _⟩ := Rd.of_own ho
  exact ⟨A, c, rfl, hr, hb⟩

end Go.Proofs.Ytehclfpjccfmeaa.C2
