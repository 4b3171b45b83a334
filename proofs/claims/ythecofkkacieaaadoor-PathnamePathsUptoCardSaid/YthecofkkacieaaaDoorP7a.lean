/-
  Layer 7, walks: names.
-/
import Derived.Test.YthecofkkacieaaaDoorM7
import Derived.Test.YthecofkkacieaaaDoorSt
import Derived.Laws.RangeAny
import Derived.Lib.OthersKept
import Derived.RangeFuncBox
namespace Go.Proofs.YthecofkkacieaaaDoor.P7
open Go.RowKit Go.PlainAid M7
set_option linter.unusedVariables false

theorem bs_toList (l : List UInt8) : (bs l).toList = l := by rw [ByteArray.toList_eq]; rfl
theorem bs_inj {a b : List UInt8} (h : bs a = bs b) : a = b := by rw [← bs_list a, h, bs_list]
theorem ret1b {a b : Bool} (h : a = b) : Ending.returned (.bool a) = Ending.returned (.bool b) := by rw [h]
theorem chain {w a b : World} (h : Below w.heap.size w a) (k : Below a.heap.size a b) : Below w.heap.size w b := h.trans (k.mono h.size)

/-- The iterator stands there. -/
def It (wr : World) (B : Nat) (l : List UInt8) (pos : Nat) : Prop := wr.heap[B]? = some (.stringIter (bs l) pos)
theorem It.moved {wr : World} {B : Nat} {l : List UInt8} {pos : Nat} (h : It wr B l pos) (p : Nat) : It (wr.iterAt B (bs l) p) B l p := Lib.iterAt_heap _ _ _ _ _ h
theorem It.pos {wr : World} {B : Nat} {l : List UInt8} {pos : Nat} (h : It wr B l pos) : wr.iterPos B = pos := by unfold World.iterPos; rw [show wr.heap[B]? = _ from h]
theorem It.new (w : World) (l : List UInt8) : It (w.iter (bs l) 0) w.heap.size l 0 := World.iter_heap w _ 0
theorem It.next {P : Program} {wr : World} {B : Nat} {l : List UInt8} {pos : Nat} (h : It wr B l pos) (hp : pos < l.length) {c n : Nat} (hd : Utf8.decode (bs l) pos = (c, n)) (ty : TypeId) :
    (Instr.next (.pointer (some ⟨B, 0, none⟩)) true ty).run P wr = .ok (.tuple #[.bool true, .int .i64 (pos : Int), .int .i32 (c : Int)]) (wr.iterAt B (bs l) (pos + n)) := by
  have := Lib.run_next_any_at (P := P) wr B (bs l) pos ty h (by rw [bs_size]; exact hp)
  rw [hd] at this
  exact this
theorem It.done {P : Program} {wr : World} {B : Nat} {l : List UInt8} {pos : Nat} (h : It wr B l pos) (hp : l.length ≤ pos) (ty : TypeId) :
    (Instr.next (.pointer (some ⟨B, 0, none⟩)) true ty).run P wr = .ok (.tuple #[.bool false]) wr :=
  Lib.run_next_end_at wr B (bs l) pos ty h (by rw [bs_size]; omega)
theorem below_iter (w : World) (l : List UInt8) : Below w.heap.size w (w.iter (bs l) 0) := (Below.refl _ w).alloc (Nat.le_refl _) _

theorem signs_dec : ∀ k : Fin 65, Utf8.decode (bs signs) k.val = ((signs.getD k.val 0).toNat, 1) := by decide +kernel
theorem signs_len : signs.length = 65 := by decide +kernel

/-- None of the first k signs. -/
def none_of (c : UInt8) (k : Nat) : Prop := ∀ j, j < k → signs.getD j 0 ≠ c
theorem getD_get {l : List UInt8} {k : Nat} (h : k < l.length) : l.getD k 0 = l[k] := by simp [List.getD, List.getElem?_eq_getElem h]
theorem bt_bs (l : List UInt8) (k : Nat) (h : k < l.length) : bt (bs l) k = ((l[k]).toNat : Int) := by
  unfold bt; rw [dif_pos (by rw [bs_size]; exact h)]; rfl
theorem sign_at {c : UInt8} {k : Nat} (hk : k < 65) (h : signs.getD k 0 = c) : sign c = true := by
  unfold sign
  rw [List.contains_iff_mem]
  have hl : k < signs.length := by rw [signs_len]; exact hk
  rw [← h, getD_get hl]
  exact List.getElem_mem hl
theorem sign_none {c : UInt8} (h : none_of c 65) : sign c = false := by
  cases hs : sign c with
  | false => rfl
  | true =>
    unfold sign at hs
    rw [List.contains_iff_mem] at hs
    obtain ⟨k, hk, hkc⟩ := List.getElem_of_mem hs
    rw [signs_len] at hk
    refine absurd ?_ (h k hk)
    rw [getD_get (by rw [signs_len]; exact hk)]
    exact hkc
theorem cell_iterAt {wr : World} {B b : Nat} {l : List UInt8} {p : Nat} {v : Value} (hb : b ≠ B) (h : wr.cell? ⟨b, 0, none⟩ = some v) : (wr.iterAt B (bs l) p).cell? ⟨b, 0, none⟩ = some v := by
  show (World.putObj wr B (.stringIter (bs l) p)).cell? _ = _
  rw [← h]
  unfold World.cell?
  rw [World.putObj_heap_other hb]

set_option maxRecDepth 100000 in
set_option maxHeartbeats 400000 in
/-- The closure: the bytes of names looked up. -/
theorem signC_any (B : Nat) (l : List UInt8) (k : Nat) (hk : k < l.length) (hz : l.length ≤ 140737488351232) (w : World) (hc : w.cell? ⟨B, 0, none⟩ = some (.string (bs l))) (hB : B < w.heap.size) :
    Calls Tryd.prog 23 #[.int .i64 (k : Int), .pointer (some ⟨B, 0, none⟩)] w fun e w' => e = .returned (.bool (sign l[k])) ∧ Below w.heap.size w w' := by
  have hbt := bt_bs l k hk
  have hks : k < (bs l).size := by rw [bs_size]; exact hk
  have H0 : It (w.iter (bs signs) 0) w.heap.size signs 0 := It.new w signs
  have HB0 := below_iter w signs
  have HC := Lib.hid hc
  have HH0 := Lib.hid H0
  have HHB0 := Lib.hid HB0
  clear hc H0 HB0
  generalize l[k] = x at hbt ⊢
  have HBT := Lib.hid hbt
  clear hbt
  have hw32 : wrap32 (x.toNat : Int) = (x.toNat : Int) := by have := x.toNat_lt; unfold wrap32; omega
  go_enter Tryd.func23, Tryd.ntmps23
  go_wp2
  go_loopw [5] (fun v wr => ∃ j : Nat, j ≤ 65 ∧ It wr w.heap.size signs j ∧ none_of x j ∧ Below w.heap.size w wr) (fun _ wr => 65 - wr.iterPos w.heap.size)
  case atStart => exact ⟨0, by omega, HH0.out, fun j hj => absurd hj (by omega), HHB0.out⟩
  case round =>
    obtain ⟨j, hj, hit, hno, hb⟩ := hrel
    by_cases hlt : j < 65
    · have hd := signs_dec ⟨j, hlt⟩
      have hnx := fun ty => hit.next (P := Tryd.prog) (by rw [signs_len]; exact hlt) hd ty
      have hit1 := hit.moved (j + 1)
      have hb1 := Lib.below_iterAt hb (Nat.le_refl _) (bs signs) (j + 1)
      have hc1 := cell_iterAt (l := signs) (p := j + 1) (Nat.ne_of_lt hB) ((hb.cell (p := ⟨B, 0, none⟩) hB).trans HC.out)
      have hp := hit.pos
      clear hit hb hd
      generalize hx : signs.getD j 0 = y at hnx
      generalize wr.iterAt w.heap.size (bs signs) (j + 1) = W1 at hnx hit1 hb1 hc1
      by_cases he : y = x
      · have hs : sign x = true := sign_at hlt (hx.trans he)
        have hq : ((y.toNat : Int) == (x.toNat : Int)) = true := by rw [he]; simp
        clear hx hno
        have HB1 := HBT.out
        have hgb := get_bt (bs l)
        go_wp2
        go_ret
        exact ⟨by rw [hs]; rfl, hb1⟩
      · have hq : ((y.toNat : Int) == (x.toNat : Int)) = false := by
          simp only [beq_eq_false_iff_ne, ne_eq]
          intro h
          exact he (UInt8.toNat_inj.1 (by omega))
        have hno1 : none_of x (j + 1) := fun i hi => by
          by_cases h2 : i < j
          · exact hno i h2
          · obtain rfl : i = j := by omega
            rw [hx]; exact he
        clear hx hno he
        have HB1 := HBT.out
        have hgb := get_bt (bs l)
        go_wp2
        go_roundw
        case rel => exact ⟨j + 1, by omega, hit1, hno1, hb1⟩
        case measure => rw [hp, hit1.pos]; omega
    · obtain rfl : j = 65 := by omega
      have hs := sign_none hno
      have hnx := fun ty => hit.done (P := Tryd.prog) (by rw [signs_len]; exact Nat.le_refl _) ty
      go_wp2
      go_ret
      exact ⟨by rw [hs]; rfl, hb⟩

theorem below_box {w : World} (o : Obj) : Below w.heap.size w (w.alloc o) := (Below.refl _ _).alloc (Nat.le_refl _) _
/-- The four tests at the head of Name, as the walk asks them. -/
def Tests (l : List UInt8) (a b c d : Bool) : Prop := (bs l).toList.isEmpty = a ∧ decide (32 < ((bs l).size : Int)) = b ∧ ((bs l).toList == [46]) = c ∧ ((bs l).toList == [46, 46]) = d
theorem tests (l : List UInt8) : Tests l (decide (l = [])) (decide (32 < l.length)) (decide (l = [46])) (decide (l = [46, 46])) := by
  refine ⟨?_, ?_, ?_, ?_⟩
  · rw [bs_toList]; cases l <;> simp
  · rw [bs_size, Bool.eq_iff_iff]; simp only [decide_eq_true_eq]; omega
  · rw [bs_toList, Bool.eq_iff_iff]; simp
  · rw [bs_toList, Bool.eq_iff_iff]; simp

set_option maxRecDepth 100000 in
set_option maxHeartbeats 400000 in
theorem name_bad (l : List UInt8) (a b c d : Bool) (ht : Tests l a b c d) (h : a = true ∨ b = true ∨ c = true ∨ d = true) (w : World) :
    Calls Tryd.prog 10 #[.string (bs l)] w fun e w' => e = .returned (.bool false) ∧ Below w.heap.size w w' := by
  have HB := Lib.hid (below_box (w := w) (.cells #[.string (bs l)] 9))
  obtain ⟨h1, h2, h3, h4⟩ := ht
  cases a
  · cases b
    · cases c
      · cases d
        · simp at h
        · clear h
          go_enter Tryd.func10, Tryd.ntmps10
          go_wp2
          go_ret
          exact ⟨rfl, HB.out⟩
      · clear h
        go_enter Tryd.func10, Tryd.ntmps10
        go_wp2
        go_ret
        exact ⟨rfl, HB.out⟩
    · clear h
      go_enter Tryd.func10, Tryd.ntmps10
      go_wp2
      go_ret
      exact ⟨rfl, HB.out⟩
  · clear h
    go_enter Tryd.func10, Tryd.ntmps10
    go_wp2
    go_ret
    exact ⟨rfl, HB.out⟩

def Signs (l : List UInt8) (k : Nat) : Prop := ∀ j (hj : j < l.length), j < k → sign l[j] = true

set_option maxRecDepth 100000 in
set_option maxHeartbeats 400000 in
theorem name_loop (l : List UInt8) (ht : Tests l false false false false) (h32 : l.length ≤ 32) (w : World) :
    Calls Tryd.prog 10 #[.string (bs l)] w fun e w' => e = .returned (.bool (l.all sign)) ∧ Below w.heap.size w w' := by
  have HB := Lib.hid (below_box (w := w) (.cells #[.string (bs l)] 9))
  have hs := (Boxed.new w 9 (.string (bs l))).cell
  obtain ⟨h1, h2, h3, h4⟩ := ht
  have hsz := bs_size l
  go_enter Tryd.func10, Tryd.ntmps10
  go_wp2
  obtain ⟨W0, hW0⟩ : ∃ W0, w.alloc (.cells #[.string (bs l)] 9) = W0 := ⟨_, rfl⟩
  rw [hW0]
  have hsW : w.heap.size < W0.heap.size := by rw [← hW0]; simp
  rw [hW0] at HB hs
  clear hW0 h1 h2 h3 h4
  go_loopw [23] (fun v wr => ∃ k : Nat, k ≤ l.length ∧ v = .int .i64 (k : Int) ∧ Signs l k ∧ Below W0.heap.size W0 wr) (fun v _ => l.length - (intOf v).toNat)
  case atStart => exact ⟨0, by omega, rfl, fun j _ hj => absurd hj (by omega), Below.refl _ _⟩
  case round =>
    obtain ⟨k, hk, rfl, hsg, hb⟩ := hrel
    have hc := (hb.cell (p := ⟨w.heap.size, 0, none⟩) hsW).trans hs
    by_cases hlt : k < l.length
    · have hsc : w.heap.size < wr.heap.size := Nat.lt_of_lt_of_le hsW hb.size
      go_wp2_with fail
      refine (signC_any w.heap.size l k hlt (by omega) wr hc hsc).mono ?_
      rintro e w1 ⟨rfl, hb1⟩
      cases hx : sign l[k]
      · have hall : l.all sign = false := by
          rw [List.all_eq_false]
          exact ⟨l[k], List.getElem_mem hlt, by rw [hx]; simp⟩
        go_wp2
        go_ret
        exact ⟨by rw [hall]; rfl, HB.out.trans ((hb.trans (hb1.mono hb.size)).mono (Nat.le_of_lt hsW))⟩
      · have hsg1 : Signs l (k + 1) := fun j hj h => by
          by_cases h2 : j < k
          · exact hsg j hj h2
          · obtain rfl : j = k := by omega
            exact hx
        clear hsg
        go_wp2
        go_roundw
        case rel => exact ⟨k + 1, by omega, by go_num, hsg1, hb.trans (hb1.mono hb.size)⟩
        case measure => simp [intOf]; omega
    · have hall : l.all sign = true := by
        rw [List.all_eq_true]
        intro c hc
        obtain ⟨j, hj, rfl⟩ := List.getElem_of_mem hc
        exact hsg j hj (by omega)
      go_wp2
      go_ret
      exact ⟨by rw [hall]; rfl, HB.out.trans (hb.mono (Nat.le_of_lt hsW))⟩

theorem name_any (l : List UInt8) (w : World) :
    Calls Tryd.prog 10 #[.string (bs l)] w fun e w' => e = .returned (.bool (nameB l)) ∧ Below w.heap.size w w' := by
  have ht := tests l
  by_cases h : l ≠ [] ∧ l.length ≤ 32 ∧ l ≠ [46] ∧ l ≠ [46, 46]
  · obtain ⟨h1, h2, h3, h4⟩ := h
    rw [decide_eq_false h1, decide_eq_false (Nat.not_lt.2 h2), decide_eq_false h3, decide_eq_false h4] at ht
    have := name_loop l ht h2 w
    unfold nameB
    rw [decide_eq_true (show l ≠ [] ∧ l.length ≤ 32 ∧ l ≠ [46] ∧ l ≠ [46, 46] from ⟨h1, h2, h3, h4⟩), Bool.true_and]
    exact this
  · have hn : nameB l = false := by unfold nameB; rw [decide_eq_false h, Bool.false_and]
    rw [hn]
    refine name_bad l _ _ _ _ ht ?_ w
    simp only [decide_eq_true_eq]
    by_cases h1 : l = []
    · exact .inl h1
    · by_cases h2 : 32 < l.length
      · exact .inr (.inl h2)
      · by_cases h3 : l = [46]
        · exact .inr (.inr (.inl h3))
        · by_cases h4 : l = [46, 46]
          · exact .inr (.inr (.inr h4))
          · exact absurd ⟨h1, by omega, h3, h4⟩ h

set_option maxRecDepth 100000 in
set_option maxHeartbeats 400000 in
theorem refName_bad (l : List UInt8) (a b c d : Bool) (ht : Tests l a b c d) (h : a = true ∨ b = true ∨ c = true ∨ d = true) (w : World) :
    Calls Tryd.prog 11 #[.string (bs l)] w fun e w' => e = .returned (.bool false) ∧ Below w.heap.size w w' := by
  have HB := Lib.hid (Below.refl w.heap.size w)
  obtain ⟨h1, h2, h3, h4⟩ := ht
  cases a
  · cases b
    · cases c
      · cases d
        · simp at h
        · clear h
          go_enter Tryd.func11, Tryd.ntmps11
          go_wp2
          go_ret
          exact ⟨rfl, HB.out⟩
      · clear h
        go_enter Tryd.func11, Tryd.ntmps11
        go_wp2
        go_ret
        exact ⟨rfl, HB.out⟩
    · clear h
      go_enter Tryd.func11, Tryd.ntmps11
      go_wp2
      go_ret
      exact ⟨rfl, HB.out⟩
  · clear h
    go_enter Tryd.func11, Tryd.ntmps11
    go_wp2
    go_ret
    exact ⟨rfl, HB.out⟩

set_option maxRecDepth 100000 in
set_option maxHeartbeats 1000000 in
theorem refName_loop (l : List UInt8) (ht : Tests l false false false false) (h32 : l.length ≤ 32) (w : World) :
    Calls Tryd.prog 11 #[.string (bs l)] w fun e w' => e = .returned (.bool (l.all sign)) ∧ Below w.heap.size w w' := by
  obtain ⟨h1, h2, h3, h4⟩ := ht
  have hsz := bs_size l
  go_enter Tryd.func11, Tryd.ntmps11
  go_wp2
  clear h1 h2 h3 h4
  go_loopw [3] (fun v wr => ∃ k : Nat, k ≤ l.length ∧ v = .int .i64 (k : Int) ∧ Signs l k ∧ Below w.heap.size w wr) (fun v _ => l.length - (intOf v).toNat)
  case atStart => exact ⟨0, by omega, rfl, fun j _ hj => absurd hj (by omega), Below.refl _ _⟩
  case round =>
    obtain ⟨k, hk, rfl, hsg, hb⟩ := hrel
    by_cases hlt : k < l.length
    · have hbt := bt_bs l k hlt
      have hlt8 := bt_le (bs l) k
      have hge8 := bt_nonneg (bs l) k
      have hgb := get_bt (bs l)
      have hsi := sign_iff l[k]
      have HS := Lib.hid hsi
      have HT := Lib.hid hbt
      clear hsi hbt
      generalize hy : bt (bs l) k = y at *
      go_wp2
      all_goals have hsi := HS.out
      all_goals have hbt := HT.out
      all_goals first
        | (have hs : sign l[k] = true := hsi.2 (by clear hsi; rename_i hx; (try simp at hx); omega)
           have hsg1 : Signs l (k + 1) := fun j hj h => by
             by_cases h2 : j < k
             · exact hsg j hj h2
             · obtain rfl : j = k := by omega
               exact hs
           exact ⟨⟨k + 1, by omega, by go_num, hsg1, hb⟩, by simp [intOf]; omega⟩)
        | (have hs : sign l[k] = false := by
             cases hq : sign l[k] with
             | false => rfl
             | true => have := hsi.1 hq; clear hsi; rename_i hx _; (try simp at hx); omega
           have hall : l.all sign = false := by
             rw [List.all_eq_false]
             exact ⟨l[k], List.getElem_mem hlt, by rw [hs]; simp⟩
           go_ret
           exact ⟨by rw [hall]; rfl, hb⟩)
    · have hall : l.all sign = true := by
        rw [List.all_eq_true]
        intro c hc
        obtain ⟨j, hj, rfl⟩ := List.getElem_of_mem hc
        exact hsg j hj (by omega)
      go_wp2
      go_ret
      exact ⟨by rw [hall]; rfl, hb⟩

theorem refName_any (l : List UInt8) (w : World) :
    Calls Tryd.prog 11 #[.string (bs l)] w fun e w' => e = .returned (.bool (nameB l)) ∧ Below w.heap.size w w' := by
  have ht := tests l
  by_cases h : l ≠ [] ∧ l.length ≤ 32 ∧ l ≠ [46] ∧ l ≠ [46, 46]
  · obtain ⟨h1, h2, h3, h4⟩ := h
    rw [decide_eq_false h1, decide_eq_false (Nat.not_lt.2 h2), decide_eq_false h3, decide_eq_false h4] at ht
    have := refName_loop l ht h2 w
    unfold nameB
    rw [decide_eq_true (show l ≠ [] ∧ l.length ≤ 32 ∧ l ≠ [46] ∧ l ≠ [46, 46] from ⟨h1, h2, h3, h4⟩), Bool.true_and]
    exact this
  · have hn : nameB l = false := by unfold nameB; rw [decide_eq_false h, Bool.false_and]
    rw [hn]
    refine refName_bad l _ _ _ _ ht ?_ w
    simp only [decide_eq_true_eq]
    by_cases h1 : l = []
    · exact .inl h1
    · by_cases h2 : 32 < l.length
      · exact .inr (.inl h2)
      · by_cases h3 : l = [46]
        · exact .inr (.inr (.inl h3))
        · by_cases h4 : l = [46, 46]
          · exact .inr (.inr (.inr h4))
          · exact absurd ⟨h1, by omega, h3, h4⟩ h

end Go.Proofs.YthecofkkacieaaaDoor.P7
