/-
  Layer 5, walks: the document's reading of an id.
-/
import Derived.Test.YthecofkkacieaaaDoorS5o
namespace Go.Proofs.YthecofkkacieaaaDoor.S5
open Go.RowKit Go.PlainAid Go.Shelf M5
set_option linter.unusedVariables false

theorem numR_len (l : List UInt8) : (numR l).2.length ≤ l.length := by
  unfold numR
  split
  · simp
  · simp only [List.length_drop]; omega
theorem parse_nums {s : List UInt8} {t r i : Int} {rest : List UInt8} (h : numsR 3 s = some ([t, r, i], rest)) : parseR s = if rest = [] ∧ rightId t r i = true then some (t, r, i) else none := by
  unfold parseR
  rw [h]
  cases rest with
  | nil => simp
  | cons a b => simp
theorem parse_stuck {s : List UInt8} {k : Nat} (hk : k ≤ 3) (h : numsR k s = none) : parseR s = none := by
  have := numsR_none h (3 - k)
  rw [show k + (3 - k) = 3 by omega] at this
  unfold parseR
  rw [this]

/-- WHAT THE DOCUMENT's LOOP KEEPS. -/
def RefRel (s : List UInt8) (w0 : World) (B : Nat) (s0 l i : Value) (wr : World) : Prop :=
  ∃ (k : Nat) (ns : List Int) (rest : List UInt8), k ≤ 3 ∧ i = .int .i64 (k : Int) ∧ Hid (numsR k s = some (ns, rest)) ∧ s0 = .string (bs rest) ∧ rest.length ≤ s.length ∧ wr.ownsRow B 3 1 l k (is ns) ∧ Below B w0 wr
theorem RefRel.step {s : List UInt8} {w0 : World} {B k : Nat} {ns : List Int} {rest r : List UInt8} {w2 w3 : World} {l l' : Value} {n : Int} {r2 : List UInt8} (hk : k < 3) (hn : numsR k s = some (ns, rest)) (hs : sepR k rest = some r) (hr : r.length ≤ s.length) (hnum : numR r = (n, r2)) (hpos : 0 ≤ n)
    (ho : w2.ownsRow B 3 1 l k (is ns)) (hb : Below B w0 w2) (hB : B ≤ w2.heap.size) (h1 : w3.ownsRow B 3 1 l' (k + 1) (is ns ++ [.int .i64 n])) (o : Obj) (hg : (w2.alloc o).grownBy w3 l.ownBlock) :
    RefRel s w0 B (.string (bs r2)) l' (.int .i64 ((k : Int) + 1)) w3 := by
  refine ⟨k + 1, ns ++ [n], r2, by omega, by go_num, ?_, rfl, ?_, ?_, (hb.alloc hB o).grown hg (by simp; omega) (fun q hq => (ho.lt q hq).1)⟩
  · have := numsR_on hn hs (by rw [hnum]; exact hpos)
    rw [hnum] at this
    exact this
  · have := numR_len r
    rw [hnum] at this
    simp at this
    omega
  · rw [is_snoc]; exact h1

theorem number_as {r : List UInt8} {n : Int} {r2 : List UInt8} (h : numR r = (n, r2)) (hz : r.length ≤ 140737488351232) (w : World) :
    Calls Tryd.prog 37 #[.string (bs r)] w fun e w' => e = .returned (.tuple #[.int .i64 n, .string (bs r2)]) ∧ Below w.heap.size w w' := by
  have := number_any (bs r) w (by rw [bs_size]; exact hz)
  rw [bs_list, h] at this
  exact this
theorem zero3 {w : World} {v : Value} (h : v = .agg #[.int .i64 0, .int .i64 0, .int .i64 0]) : Ending.returned (.tuple #[v, .bool false]) = Ending.returned (parsedV none) := by rw [h]; rfl

set_option maxRecDepth 100000 in
set_option maxHeartbeats 4000000 in
theorem refParse_any (s : List UInt8) (w : World) (hz : s.length ≤ 140737488351232) :
    Calls Tryd.prog 26 #[.string (bs s)] w fun e w' => e = .returned (parsedV (parseR s)) ∧ Below w.heap.size w w' := by
  obtain ⟨i0, hi0, hz0, hz1, hz2⟩ := info_parts info_int
  have h0 : RefRel s (w.alloc (.cells #[.int .i64 0, .int .i64 0, .int .i64 0] 25)) (w.heap.size + 1) (.string (bs s)) (.slice none 0 0) (.int .i64 0) (w.alloc (.cells #[.int .i64 0, .int .i64 0, .int .i64 0] 25)) :=
    ⟨0, [], s, by omega, rfl, rfl, rfl, Nat.le_refl _, World.ownsRow_nil _ _ _ _, Below.refl _ _⟩
  have H0 := Lib.hid h0
  clear h0
  go_enter Tryd.func26, Tryd.ntmps26
  go_wp2
  go_loopw [0, 4, 5, 6, 7] (fun s0 l i _ _ wr => RefRel s (w.alloc (.cells #[.int .i64 0, .int .i64 0, .int .i64 0] 25)) (w.heap.size + 1) s0 l i wr) (fun _ _ i _ _ _ => 3 - (intOf i).toNat)
  case atStart => exact H0.out
  case round =>
    clear H0
    obtain ⟨k, ns, rest, hk, rfl, HN, rfl, hrl, ho, hb⟩ := hrel
    have hB : w.heap.size + 1 ≤ wr.heap.size := by have := hb.size; simpa using this
    have hT : Trio wr w.heap.size 25 0 0 0 := (hb.block w.heap.size (by omega)).trans (heap_alloc_new w _)
    have hbw : Below w.heap.size w wr := (new1 w _).trans (hb.mono (by omega))
    by_cases hk3 : k < 3
    rotate_left
    · obtain ⟨t, r, i, hns, ht0, hr0, hi0', _⟩ := numsR_three (ns := ns) (rest := rest) (l := s) (by have := HN.out; rwa [show k = 3 by omega] at this)
      have hpn : parseR s = if rest = [] ∧ rightId t r i = true then some (t, r, i) else none := parse_nums (by have := HN.out; rw [show k = 3 by omega, hns] at this; exact this)
      have ho3 : wr.ownsRow (w.heap.size + 1) 3 1 u4 3 (is [t, r, i]) := by rw [show k = 3 by omega, hns] at ho; exact ho
      obtain ⟨g, cap, hu⟩ : ∃ g cap, u4 = .slice (some ⟨g, 0, none⟩) 3 cap := by
        rcases ho3.2 with ⟨_, h⟩ | ⟨g, cap, _, h, _⟩
        · omega
        · exact ⟨g, cap, h⟩
      subst hu
      have c0 : wr.cell? ⟨g, 0, none⟩ = some (.int .i64 t) := ho3.cellAt 0 (by omega)
      have c1 : wr.cell? ⟨g, 1, none⟩ = some (.int .i64 r) := ho3.cellAt 1 (by omega)
      have c2 : wr.cell? ⟨g, 2, none⟩ = some (.int .i64 i) := ho3.cellAt 2 (by omega)
      have hgl : g < wr.heap.size := World.block_lt_of_cell? wr _ c0
      have hgn : g ≠ wr.heap.size := by omega
      have hwd : Below wr.heap.size wr ((wr.alloc (.cells #[.int .i64 t, .int .i64 r, .int .i64 i] 25)).drew) := (new1 wr _).drew
      have hX : Trio ((wr.alloc (.cells #[.int .i64 t, .int .i64 r, .int .i64 i] 25)).drew) wr.heap.size 25 t r i := heap_alloc_new wr _
      have hT2 := hT.keep hwd
      have hbf := chain hbw hwd
      have HX := Lib.hid hX
      have HT2 := Lib.hid hT2
      have hwr : w.heap.size ≠ wr.heap.size := by omega
      have hk9 : ¬ k < 3 := hk3
      clear ho ho3 hns hb hT hbw hwd hX hT2
      by_cases hre : rest = []
      · subst hre
        have hem : (bs []).toList.isEmpty = true := by rw [bs_toList]; rfl
        cases hri : rightId t r i with
        | true =>
          rw [hri, if_pos ⟨rfl, rfl⟩] at hpn
          have HNP := Lib.hid hpn
          have HRI := Lib.hid hri
          clear hri hpn
          go_wp2
          go_region_held3 (fun w' => w'.cell? ⟨g, 0, none⟩ = some (.int .i64 t) ∧ w'.cell? ⟨g, 1, none⟩ = some (.int .i64 r) ∧ w'.cell? ⟨g, 2, none⟩ = some (.int .i64 i)) (first | go_keep) (first | fail)
          clear c0 c1 c2
          go_wp2_with fail
          refine (refRightId_any _ _ _ _).mono ?_
          rintro e w2 ⟨rfl, hb2⟩
          rw [HRI.out]
          have hT2 := HT2.out.keep hb2
          have hX2 := HX.out.keep hb2
          have hbf2 := chain hbf hb2
          obtain ⟨q0, q1, q2⟩ := hT2.cells
          obtain ⟨x0, x1, x2⟩ := hX2.cells
          have f0 := hT2.thawed 0
          have f1 := hT2.thawed 1
          have f2 := hT2.thawed 2
          have hbe := set3 hbf2 (Nat.le_refl _) (.int .i64 t) (.int .i64 r) (.int .i64 i)
          clear hT2 hX2 hbf hbf2 hb2
          go_wp2
          exact bodyPost_ret (v := .tuple #[.agg #[.int .i64 t, .int .i64 r, .int .i64 i], .bool true]) (by simp [results, Tryd.results26, go_sem, q0, q1, q2]) rfl ⟨by rw [HNP.out]; rfl, hbe⟩
        | false =>
          rw [hri, if_neg (by simp)] at hpn
          have HNP := Lib.hid hpn
          have HRI := Lib.hid hri
          clear hri hpn
          go_wp2
          go_region_held3 (fun w' => w'.cell? ⟨g, 0, none⟩ = some (.int .i64 t) ∧ w'.cell? ⟨g, 1, none⟩ = some (.int .i64 r) ∧ w'.cell? ⟨g, 2, none⟩ = some (.int .i64 i)) (first | go_keep) (first | fail)
          clear c0 c1 c2
          go_wp2_with fail
          refine (refRightId_any _ _ _ _).mono ?_
          rintro e w2 ⟨rfl, hb2⟩
          rw [HRI.out]
          have hT2 := HT2.out.keep hb2
          have hbf := chain hbf hb2
          clear hb2
          obtain ⟨q0, q1, q2⟩ := hT2.cells
          have f0 := hT2.thawed 0
          have f1 := hT2.thawed 1
          have f2 := hT2.thawed 2
          have hbe := set3 hbf (Nat.le_refl _) (.int .i64 0) (.int .i64 0) (.int .i64 0)
          clear hT2 hbf
          go_wp2
          exact bodyPost_ret (v := .tuple #[.agg #[.int .i64 0, .int .i64 0, .int .i64 0], .bool false]) (by simp [results, Tryd.results26, go_sem, q0, q1, q2]) rfl ⟨by rw [HNP.out]; rfl, hbe⟩
      · rw [if_neg (fun h => hre h.1)] at hpn
        have HNP := Lib.hid hpn
        have hem : (bs rest).toList.isEmpty = false := by rw [bs_toList]; cases rest with
          | nil => exact absurd rfl hre
          | cons a b => rfl
        clear hpn hre
        go_wp2
        go_region_held3 (fun w' => w'.cell? ⟨g, 0, none⟩ = some (.int .i64 t) ∧ w'.cell? ⟨g, 1, none⟩ = some (.int .i64 r) ∧ w'.cell? ⟨g, 2, none⟩ = some (.int .i64 i)) (first | go_keep) (first | fail)
        clear c0 c1 c2
        have hT2 : Trio (wr.alloc (.cells #[.int .i64 t, .int .i64 r, .int .i64 i] 25)) w.heap.size 25 0 0 0 := HT2.out
        obtain ⟨q0, q1, q2⟩ := hT2.cells
        have f0 := hT2.thawed 0
        have f1 := hT2.thawed 1
        have f2 := hT2.thawed 2
        have hbe := set3 hbf (Nat.le_refl _) (.int .i64 0) (.int .i64 0) (.int .i64 0)
        clear hT2 hbf
        go_wp2
        exact bodyPost_ret (v := .tuple #[.agg #[.int .i64 0, .int .i64 0, .int .i64 0], .bool false]) (by simp [results, Tryd.results26, go_sem, q0, q1, q2]) rfl ⟨by rw [HNP.out]; rfl, hbe⟩
    by_cases hk0 : k = 0
    · obtain ⟨r, hrr⟩ : ∃ r, r = rest := ⟨_, rfl⟩
      have HS : Hid (sepR k rest = some r) := by show _ = _; rw [hk0, hrr]; rfl
      have hrl2 : r.length ≤ s.length := by rw [hrr]; exact hrl
      have hkl : k ≤ 0 := by omega
      rw [← hrr]
      clear hk0 hrr
      obtain ⟨n, r2, hnum⟩ : ∃ n r2, numR r = (n, r2) := ⟨_, _, rfl⟩
      go_wp2_with fail
      refine (number_as hnum (by omega) _).mono ?_
      rintro e w2 ⟨rfl, hb2⟩
      by_cases hneg : n < 0
      · have HNP := Lib.hid (parse_stuck (by omega) (numsR_bad HN.out HS.out (by rw [hnum]; exact hneg)))
        have hT2 := hT.keep hb2
        have hbf := chain hbw hb2
        clear hnum ho hb hb2 hT hbw
        obtain ⟨q0, q1, q2⟩ := hT2.cells
        have f0 := hT2.thawed 0
        have f1 := hT2.thawed 1
        have f2 := hT2.thawed 2
        have hbe := set3 hbf (Nat.le_refl _) (.int .i64 0) (.int .i64 0) (.int .i64 0)
        clear hT2 hbf
        go_wp2
        exact bodyPost_ret (v := .tuple #[.agg #[.int .i64 0, .int .i64 0, .int .i64 0], .bool false]) (by simp [results, Tryd.results26, go_sem, q0, q1, q2]) rfl ⟨by rw [HNP.out]; rfl, hbe⟩
      · have ho2 := own_keep ho hb2
        have hB2 : w.heap.size + 1 ≤ w2.heap.size := Nat.le_trans hB hb2.size
        have hb3 := hb.trans (hb2.mono hB)
        have HNUM := Lib.hid hnum
        clear hnum hb hb2 ho hT hbw
        go_wp2_with (at_builtin; refine wpList_append_own _ rfl (.tmp 33) (.tmp 35) 59 rfl (w.heap.size + 1) 3 i0 (.int .i64 0) 1 8 Tryd.underlying59 hi0 hz0 hz1 hz2 rfl (by decide) _ _ _ rfl (ho2.alloc _) ⟨w2.heap.size, 0, none⟩ 1 1 _ rfl rfl (cell_one_new _ _ _) (by simp [Value.oneCell']) (by unfold maxLen; omega) (by omega) (by simp; omega) ?_)
        intro v1 w3 hown1 hg1 _
        have HREL := Lib.hid (RefRel.step hk3 HN.out HS.out hrl2 HNUM.out (by omega) ho2 hb3 hB2 hown1 _ hg1)
        clear hown1 hg1 ho2 hb3
        go_wp2
        go_roundw
        case rel => exact HREL.out
        case measure => simp [intOf]; omega
    · have hkp : 1 ≤ k := by omega
      cases hrest : rest with
      | nil =>
        have HNP := Lib.hid (parse_stuck (by omega) (numsR_sep HN.out (by rw [hrest]; unfold sepR; rw [if_neg hk0])))
        have hT2 := hT
        have hbf := hbw
        have hem : (bs []).toList.isEmpty = true := by rw [bs_toList]; rfl
        clear ho hb hT hbw hk0 hrest
        obtain ⟨q0, q1, q2⟩ := hT2.cells
        have f0 := hT2.thawed 0
        have f1 := hT2.thawed 1
        have f2 := hT2.thawed 2
        have hbe := set3 hbf (Nat.le_refl _) (.int .i64 0) (.int .i64 0) (.int .i64 0)
        clear hT2 hbf
        go_wp2
        exact bodyPost_ret (v := .tuple #[.agg #[.int .i64 0, .int .i64 0, .int .i64 0], .bool false]) (by simp [results, Tryd.results26, go_sem, q0, q1, q2]) rfl ⟨by rw [HNP.out]; rfl, hbe⟩
      | cons c r =>
        obtain ⟨X, hX⟩ : ∃ X, X = bs (c :: r) := ⟨_, rfl⟩
        have h0s : 0 < X.size := by rw [hX, bs_size]; simp
        have hx0 : X[0] = c := by subst hX; rfl
        have hem : X.toList.isEmpty = false := by rw [hX, bs_toList]; rfl
        have hex : X.extract 1 X.size = bs r := by rw [hX, ext_end]; rfl
        have hsz : X.size ≤ 140737488351232 := by rw [hX, bs_size, ← hrest]; omega
        have HX := Lib.hid hex
        rw [← hX]
        by_cases hc : c = 46
        · have hq : ((X[0].toNat : Int) == 46) = true := by rw [hx0, hc]; rfl
          have hq2 : ((X[0].toNat : Int) != 46) = false := by rw [hx0, hc]; rfl
          have HS : Hid (sepR k rest = some r) := by show _ = _; rw [hrest]; unfold sepR; rw [if_neg hk0]; simp [hc]
          have hrl2 : r.length ≤ s.length := by rw [hrest] at hrl; simp at hrl; omega
          clear hX hx0 hex hc hk0 hrest
          go_wp2_with fail
          rw [HX.out]
          obtain ⟨n, r2, hnum⟩ : ∃ n r2, numR r = (n, r2) := ⟨_, _, rfl⟩
          refine (number_as hnum (by omega) _).mono ?_
          rintro e w2 ⟨rfl, hb2⟩
          by_cases hneg : n < 0
          · have HNP := Lib.hid (parse_stuck (by omega) (numsR_bad HN.out HS.out (by rw [hnum]; exact hneg)))
            have hT2 := hT.keep hb2
            have hbf := chain hbw hb2
            clear hnum ho hb hb2 hT hbw
            obtain ⟨q0, q1, q2⟩ := hT2.cells
            have f0 := hT2.thawed 0
            have f1 := hT2.thawed 1
            have f2 := hT2.thawed 2
            have hbe := set3 hbf (Nat.le_refl _) (.int .i64 0) (.int .i64 0) (.int .i64 0)
            clear hT2 hbf
            go_wp2
            exact bodyPost_ret (v := .tuple #[.agg #[.int .i64 0, .int .i64 0, .int .i64 0], .bool false]) (by simp [results, Tryd.results26, go_sem, q0, q1, q2]) rfl ⟨by rw [HNP.out]; rfl, hbe⟩
          · have ho2 := own_keep ho hb2
            have hB2 : w.heap.size + 1 ≤ w2.heap.size := Nat.le_trans hB hb2.size
            have hb3 := hb.trans (hb2.mono hB)
            have HNUM := Lib.hid hnum
            clear hnum hb hb2 ho hT hbw
            go_wp2_with (at_builtin; refine wpList_append_own _ rfl (.tmp 33) (.tmp 35) 59 rfl (w.heap.size + 1) 3 i0 (.int .i64 0) 1 8 Tryd.underlying59 hi0 hz0 hz1 hz2 rfl (by decide) _ _ _ rfl (ho2.alloc _) ⟨w2.heap.size, 0, none⟩ 1 1 _ rfl rfl (cell_one_new _ _ _) (by simp [Value.oneCell']) (by unfold maxLen; omega) (by omega) (by simp; omega) ?_)
            intro v1 w3 hown1 hg1 _
            have HREL := Lib.hid (RefRel.step hk3 HN.out HS.out hrl2 HNUM.out (by omega) ho2 hb3 hB2 hown1 _ hg1)
            clear hown1 hg1 ho2 hb3
            go_wp2
            go_roundw
            case rel => exact HREL.out
            case measure => simp [intOf]; omega
        · have hne : c.toNat ≠ 46 := fun h => hc (UInt8.toNat_inj.1 h)
          have hq : ((X[0].toNat : Int) == 46) = false := by rw [hx0]; simp; omega
          have hq2 : ((X[0].toNat : Int) != 46) = true := by rw [hx0]; simp; omega
          have HNP := Lib.hid (parse_stuck (by omega) (numsR_sep HN.out (by rw [hrest]; unfold sepR; rw [if_neg hk0]; simp [hc])))
          have hT2 := hT
          have hbf := hbw
          clear ho hb hT hbw hk0 hrest hX hx0 hex hc hne
          obtain ⟨q0, q1, q2⟩ := hT2.cells
          have f0 := hT2.thawed 0
          have f1 := hT2.thawed 1
          have f2 := hT2.thawed 2
          have hbe := set3 hbf (Nat.le_refl _) (.int .i64 0) (.int .i64 0) (.int .i64 0)
          clear hT2 hbf
          go_wp2
          exact bodyPost_ret (v := .tuple #[.agg #[.int .i64 0, .int .i64 0, .int .i64 0], .bool false]) (by simp [results, Tryd.results26, go_sem, q0, q1, q2]) rfl ⟨by rw [HNP.out]; rfl, hbe⟩

end Go.Proofs.YthecofkkacieaaaDoor.S5
