/-
  Layer 5, walks: pieces between points.
-/
import Derived.Test.YthecofkkacieaaaDoorS5l
namespace Go.Proofs.YthecofkkacieaaaDoor.S5
open Go.RowKit Go.PlainAid Go.Shelf M5
set_option linter.unusedVariables false

def ts (l : List (List UInt8)) : List Value := l.map fun x => Value.string (bs x)
theorem ts_len (l : List (List UInt8)) : (ts l).length = l.length := by simp [ts]
theorem ts_append (a b : List (List UInt8)) : ts (a ++ b) = ts a ++ ts b := by simp [ts]
theorem info_str : (Tryd.prog.info? 9).map (fun i => (i.zero, i.size, i.bytes)) = some (some (.string ByteArray.empty), 1, 16) := by kernel_rfl
theorem ts_none (n : Nat) : List.replicate n (Value.string ByteArray.empty) = ts (List.replicate n []) := by
  unfold ts; rw [List.map_replicate]; rfl
theorem ts_set (l : List (List UInt8)) (k : Nat) (x : List UInt8) : (ts l).set k (.string (bs x)) = ts (l.set k x) := by unfold ts; rw [List.map_set]
theorem ts_put {d : List (List UInt8)} {n j : Nat} (x : List UInt8) (hd : d.length = j) (hj : j < n) : (d ++ List.replicate (n - j) ([] : List UInt8)).set j x = (d ++ [x]) ++ List.replicate (n - (j + 1)) [] := by
  subst hd
  rw [List.set_append_right _ _ (Nat.le_refl _), Nat.sub_self]
  obtain ⟨k, hk⟩ : ∃ k, n - d.length = k + 1 := ⟨n - d.length - 1, by omega⟩
  rw [hk, show n - (d.length + 1) = k by omega, List.replicate_succ, List.set_cons_zero, List.append_assoc]
  rfl

/-- WHAT THE LOOP OF genSplit KEEPS. -/
def CutRel (l : List UInt8) (K g B : Nat) (w : World) (s i : Value) (wr : World) : Prop :=
  ∃ (j : Nat) (d : List (List UInt8)) (r : List UInt8), j ≤ K ∧ i = .int .i64 (j : Int) ∧ s = .string (bs r) ∧ r.length ≤ l.length ∧ d.length = j ∧ Hid (d ++ M5.split (K - j) r = M5.split K l) ∧
    wr.ownsRow B 9 1 (.slice (some ⟨g, 0, none⟩) (K + 1) (K + 1)) (K + 1) (ts (d ++ List.replicate (K + 1 - j) [])) ∧ Below B w wr
theorem CutRel.step {l : List UInt8} {K g B j m : Nat} {w wr : World} {d : List (List UInt8)} {r : List UInt8} (hBg : B ≤ g) (hj : j < K) (hl : r.length ≤ l.length) (hd : d.length = j) (hm : m < r.length) (hc : M5.cut r = some (r.take m, r.drop (m + 1))) (hs : d ++ M5.split (K - j) r = M5.split K l)
    (ho : wr.ownsRow B 9 1 (.slice (some ⟨g, 0, none⟩) (K + 1) (K + 1)) (K + 1) (ts (d ++ List.replicate (K + 1 - j) []))) (hb : Below B w wr) :
    CutRel l K g B w (.string (bs (r.drop (m + 1)))) (.int .i64 ((j : Int) + 1)) (wr.setCell ⟨g, j, none⟩ (.string (bs (r.take m)))) := by
  refine ⟨j + 1, d ++ [r.take m], r.drop (m + 1), by omega, by go_num, rfl, by rw [List.length_drop]; omega, by simp [hd], ?_, ?_, hb.setCell hBg _⟩
  · show _ = _
    rw [← hs, show K - j = (K - (j + 1)) + 1 by omega, split_some hc, List.append_assoc]; rfl
  · have h := (ho.stored j (.string (bs (r.take m)))).1
    rw [ts_set, ts_put _ hd (by omega)] at h
    exact h
/-- What is handed back. -/
def RetTexts (ls : List (List UInt8)) (w : World) (e : Ending) (w' : World) : Prop := ∃ A k c, e = .returned (.slice A k c) ∧ Rd w' A (ts ls) ∧ ls.length = k ∧ Below w.heap.size w w'
theorem cut_end {l : List UInt8} {K g B j : Nat} {w wr : World} {d : List (List UInt8)} {r : List UInt8} (hBg : B ≤ g) (hj : j ≤ K) (hd : d.length = j) (hr : M5.split (K - j) r = [r]) (hs : d ++ M5.split (K - j) r = M5.split K l)
    (ho : wr.ownsRow B 9 1 (.slice (some ⟨g, 0, none⟩) (K + 1) (K + 1)) (K + 1) (ts (d ++ List.replicate (K + 1 - j) []))) (hb : Below B w wr) (hB : B = w.heap.size) (c : Nat) :
    RetTexts (M5.split K l) w (.returned (.slice (some ⟨g, 0, none⟩) (j + 1) c)) (wr.setCell ⟨g, j, none⟩ (.string (bs r))) := by
  have h := (ho.stored j (.string (bs r))).1
  rw [ts_set, ts_put _ hd (by omega)] at h
  rw [hr] at hs
  refine ⟨_, _, _, rfl, ?_, by rw [← hs, List.length_append, hd]; rfl, by rw [← hB]; exact hb.setCell hBg _⟩
  have hrd : Rd (wr.setCell ⟨g, j, none⟩ (.string (bs r))) (some ⟨g, 0, none⟩) (ts (d ++ [r] ++ List.replicate (K + 1 - (j + 1)) [])) := by
    obtain ⟨_, _, hv1, hrd, _⟩ := Rd.of_own h
    injection hv1 with e1 e2 e3
    rw [← e1] at hrd
    exact hrd
  rw [← hs]
  rcases hrd with h0 | ⟨b, off, e, hbl, hc⟩
  · exfalso
    have := congrArg List.length h0
    rw [ts_len, List.length_append, List.length_append] at this
    simp at this
  · refine .inr ⟨b, off, e, hbl, fun q hq => ?_⟩
    rw [ts_append] at hc
    have hq2 : q < (ts (d ++ [r]) ++ ts (List.replicate (K + 1 - (j + 1)) [])).length := by rw [List.length_append]; omega
    rw [hc q hq2, List.getElem_append_left hq]

theorem bs_toList (l : List UInt8) : (bs l).toList = l := by rw [ByteArray.toList_eq]; rfl
theorem bs_ne {l : List UInt8} (h : 0 < l.length) : (bs l).toList.isEmpty = false := by
  rw [bs_toList]; cases l with
  | nil => simp at h
  | cons a b => rfl
theorem index_as {r : List UInt8} {x : Int} (h : Lib.indexByte r 46 = x) (w : World) :
    Calls Tryd.prog 50 #[.string (bs r), .string ⟨#[46]⟩] w fun e w' => e = .returned (.int .i64 x) ∧ w = w' :=
  (Any.strings_Index_one Tryd.lays143 (bs r) 46 w).mono fun e w' ⟨he, hw⟩ => ⟨by rw [he, ← h]; rfl, hw.symm⟩
/-- How many cuts there are at most, by the text's length. -/
def Cuts (n K : Nat) : Prop := (4 < n + 1 ∧ K ≤ 3 ∧ 3 ≤ K) ∨ (n + 1 < 4 ∧ K ≤ n ∧ n ≤ K) ∨ ((4 ≤ n + 1 ∧ n + 1 ≤ 4) ∧ K ≤ 3 ∧ 3 ≤ K)
theorem cuts (n : Nat) : Cuts n (min 3 n) := by unfold Cuts; omega

set_option maxRecDepth 100000 in
set_option maxHeartbeats 2000000 in
theorem genSplit_K (s : List UInt8) (K : Nat) (hK : Cuts s.length K) (w : World) (hz : s.length ≤ 140737488355328) :
    Calls Tryd.prog 45 #[.string (bs s), .string ⟨#[46]⟩, .int .i64 0, .int .i64 4] w (RetTexts (M5.split K s) w) := by
  obtain ⟨i0, hi0, hz0, hz1, hz2⟩ := info_parts info_str
  have hsz := bs_size s
  have hne : (ByteArray.mk #[46]).toList.isEmpty = false := by decide +kernel
  have hne2 : (ByteArray.mk #[46]).size = 1 := rfl
  have HN := Lib.hid hne
  have hle : (bs s).size ≤ 140737488355328 := by rw [bs_size]; exact hz
  have hge : s.length ≤ (bs s).size := by rw [bs_size]; exact Nat.le_refl _
  have hge2 : (bs s).size ≤ s.length := by rw [bs_size]; exact Nat.le_refl _
  clear hsz
  rcases hK with ⟨c1, c2, c3⟩ | ⟨c1, c2, c3⟩ | ⟨⟨c1, c1'⟩, c2, c3⟩
  all_goals
    go_enter Tryd.func45, Tryd.ntmps45
    go_wp2_with (at_make; refine wpList_make_full _ rfl _ _ 32 rfl w.heap.size 9 i0 (.string ByteArray.empty) 1 Tryd.underlying32 hi0 hz0 hz1 _ _ _ _ (K + 1) rfl rfl (by omega) (by omega) (by rw [hz2]; omega) (by unfold maxLen; omega) (Nat.le_refl _) ?_)
    intro w1 ho hg
    have hb : Below w.heap.size w w1 := (Below.refl _ _).grown hg (Nat.le_refl _) (fun k h => by simp at h)
    rw [toList_madeCells_one, ts_none] at ho
    have h0 : CutRel s K w.heap.size w.heap.size w (.string (bs s)) (.int .i64 0) w1 := ⟨0, [], s, by omega, rfl, rfl, Nat.le_refl _, rfl, rfl, ho, hb⟩
    have H0 := Lib.hid h0
    clear h0 ho hg hb
    go_wp2
    go_loopw [0, 10, 11] (fun s0 i _ wr => CutRel s K w.heap.size w.heap.size w s0 i wr) (fun _ i _ _ => K - (intOf i).toNat)
    case atStart => exact H0.out
    case round =>
      clear H0
      obtain ⟨j, d, r, hj, rfl, rfl, hrl, hdl, HS, ho, hb⟩ := hrel
      have hfr := ho.frozenAt j
      obtain ⟨v0, hv0⟩ : ∃ v0, wr.cell? ⟨w.heap.size, j, none⟩ = some v0 := by
        rw [ho.cellAt j (by omega)]
        exact ⟨_, List.getElem?_eq_getElem (by rw [ts_len, List.length_append, List.length_replicate]; omega)⟩
      by_cases hlt : j < K
      · rcases cut_index r with ⟨hc, hx⟩ | ⟨m, hx, hm, hc⟩
        · have HX := Lib.hid hx
          have HE := Lib.hid (cut_end (Nat.le_refl w.heap.size) hj hdl (split_none hc) HS.out ho hb rfl (K + 1))
          clear hx hc ho hb
          go_wp2_with fail
          refine (index_as HX.out _).mono ?_
          rintro e w2 ⟨rfl, rfl⟩
          go_wp2
          go_ret
          exact HE.out
        · have HX := Lib.hid hx
          have HE := Lib.hid (CutRel.step (Nat.le_refl w.heap.size) hlt hrl hdl hm hc HS.out ho hb)
          have hm2 : m + 1 ≤ (bs r).size := by rw [bs_size]; omega
          have hrz : (bs r).size ≤ 140737488355328 := by rw [bs_size]; omega
          have HP := Lib.hid (ext_pre r m)
          have HQ := Lib.hid (ext_end (bs r) (m + 1))
          clear hx hc ho hb
          go_wp2_with fail
          refine (index_as HX.out _).mono ?_
          rintro e w2 ⟨rfl, rfl⟩
          go_wp2
          go_roundw
          case rel => rw [HP.out, HQ.out]; exact HE.out
          case measure => simp [intOf]; omega
      · have hjk : j = K := by omega
        have HE := Lib.hid (cut_end (Nat.le_refl w.heap.size) hj hdl (by rw [hjk, Nat.sub_self]; rfl) HS.out ho hb rfl (K + 1))
        clear hjk ho hb
        go_wp2
        go_ret
        exact HE.out

set_option maxRecDepth 100000 in
set_option maxHeartbeats 400000 in
theorem splitN_any (s : List UInt8) (w : World) (hz : s.length ≤ 140737488355328) :
    Calls Tryd.prog 35 #[.string (bs s), .string ⟨#[46]⟩, .int .i64 4] w (RetTexts (M5.split 3 s) w) := by
  have h := genSplit_K s (min 3 s.length) (cuts s.length) w hz
  have he : M5.split (min 3 s.length) s = M5.split 3 s := by
    rcases Nat.lt_or_ge s.length 3 with h3 | h3
    · rw [Nat.min_eq_right (by omega)]; exact split_more _ _ _ (Nat.le_refl _) (by omega)
    · rw [Nat.min_eq_left h3]
  rw [he] at h
  have H := Lib.hid h
  clear h he
  go_enter Tryd.func35, Tryd.ntmps35
  go_wp2_with fail
  refine (H.out).mono ?_
  rintro e w1 ⟨A, k, c, rfl, hr, hl, hb⟩
  have HR := Lib.hid hr
  have HL := Lib.hid hl
  clear hr hl
  go_wp2
  go_ret
  exact ⟨_, _, _, rfl, HR.out, HL.out, hb⟩

end Go.Proofs.YthecofkkacieaaaDoor.S5
