/-
  Layer 5, walks: the id of a text.
-/
import Derived.Test.YthecofkkacieaaaDoorS5m
namespace Go.Proofs.YthecofkkacieaaaDoor.S5
open Go.RowKit Go.PlainAid Go.Shelf M5
set_option linter.unusedVariables false

def parsedV : Option (Int × Int × Int) → Value
  | none => .tuple #[.agg #[.int .i64 0, .int .i64 0, .int .i64 0], .bool false]
  | some (t, r, i) => .tuple #[.agg #[.int .i64 t, .int .i64 r, .int .i64 i], .bool true]

theorem below_bytes (w : World) (e : TypeId) (t : ByteArray) : Below w.heap.size w (Lib.bytesWorld w e t) := Lib.bytesWorld_below w e t
theorem atoi_ok {p : List UInt8} {v : Int} (h : Lib.atoiAll p = .ok v) (hz : p.length ≤ 140737488355328) (w : World) :
    Calls Tryd.prog 36 #[.string (bs p)] w fun e w' => e = .returned (.tuple #[.int .i64 v, .nilIface]) ∧ Below w.heap.size w w' := by
  refine (Any.strconv_Atoi_ok Tryd.laysC172 (bs p) (by rw [bs_size]; omega) v h w).mono ?_
  rintro e w' ⟨rfl, h2⟩
  refine ⟨rfl, ?_⟩
  rcases h2 with rfl | ⟨t, rfl⟩
  · exact Below.refl _ _
  · exact below_bytes _ _ _
/-- An error, and whatever number beside it. -/
def RetErr (w : World) (e : Ending) (w' : World) : Prop := ∃ (x : Int) (N : Nat), e = .returned (.tuple #[.int .i64 x, .iface 83 (.pointer (some ⟨N, 0, none⟩))]) ∧ Below w.heap.size w w'
theorem atoi_bad {p : List UInt8} (h : ∀ v, Lib.atoiAll p ≠ .ok v) (hz : p.length ≤ 140737488355328) (w : World) (he : Env w) :
    Calls Tryd.prog 36 #[.string (bs p)] w (RetErr w) := by
  obtain ⟨_, ⟨te, pe, h2⟩, ⟨te', pe', h3⟩, _⟩ := he
  cases hp : Lib.atoiAll p
  · rename_i v
    exact absurd hp (h v)
  · refine (Any.strconv_Atoi_syntax Tryd.laysC172 (bs p) (by rw [bs_size]; omega) hp (.iface te pe) w h2 (.inr ⟨te, pe, rfl⟩)).mono ?_
    rintro e w' ⟨N, rfl, _, _, hb⟩
    exact ⟨_, N, rfl, hb⟩
  · refine (Any.strconv_Atoi_range Tryd.laysC172 (bs p) (by rw [bs_size]; omega) hp (.iface te' pe') w h3 (.inr ⟨te', pe', rfl⟩)).mono ?_
    rintro e w' ⟨N, rfl, _, _, hb⟩
    exact ⟨_, N, rfl, hb⟩

theorem set3 {B b : Nat} {a w : World} (h : Below B a w) (hb : B ≤ b) (x y z : Value) : Below B a (((w.setCell ⟨b, 0, none⟩ x).setCell ⟨b, 1, none⟩ y).setCell ⟨b, 2, none⟩ z) := ((h.setCell hb x).setCell hb y).setCell hb z
/-- A block of three cells of ours. -/
def Trio (w : World) (b : Nat) (t : TypeId) (x y z : Int) : Prop := w.heap[b]? = some (.cells #[.int .i64 x, .int .i64 y, .int .i64 z] t (0, 0))
theorem Trio.keep {w w' : World} {b t : Nat} {x y z : Int} (h : Trio w b t x y z) (hb : Below w.heap.size w w') : Trio w' b t x y z := by
  have hlt : b < w.heap.size := (Array.getElem?_eq_some_iff.1 h).1
  exact (hb.block b hlt).trans h
theorem Trio.cells {w : World} {b t : Nat} {x y z : Int} (h : Trio w b t x y z) : w.cell? ⟨b, 0, none⟩ = some (.int .i64 x) ∧ w.cell? ⟨b, 1, none⟩ = some (.int .i64 y) ∧ w.cell? ⟨b, 2, none⟩ = some (.int .i64 z) :=
  ⟨by rw [cell_of_row w b 0 _ t (0, 0) h]; rfl, by rw [cell_of_row w b 1 _ t (0, 0) h]; rfl, by rw [cell_of_row w b 2 _ t (0, 0) h]; rfl⟩
theorem Trio.thawed {w : World} {b t : Nat} {x y z : Int} (h : Trio w b t x y z) (k : Nat) : w.frozen? ⟨b, k, none⟩ = false := frozen_of_row w b k _ t h
theorem Trio.set0 {w : World} {b t : Nat} {x y z : Int} (h : Trio w b t x y z) (v : Int) : Trio (w.setCell ⟨b, 0, none⟩ (.int .i64 v)) b t v y z := heap_setCell_same w b 0 _ t _ h
theorem Trio.set1 {w : World} {b t : Nat} {x y z : Int} (h : Trio w b t x y z) (v : Int) : Trio (w.setCell ⟨b, 1, none⟩ (.int .i64 v)) b t x v z := heap_setCell_same w b 1 _ t _ h
theorem Trio.set2 {w : World} {b t : Nat} {x y z : Int} (h : Trio w b t x y z) (v : Int) : Trio (w.setCell ⟨b, 2, none⟩ (.int .i64 v)) b t x y v := heap_setCell_same w b 2 _ t _ h
theorem Trio.other {w : World} {b t g k : Nat} {x y z : Int} (h : Trio w b t x y z) (hg : b ≠ g) (v : Value) : Trio (w.setCell ⟨g, k, none⟩ v) b t x y z := (heap_setCell_other w ⟨g, k, none⟩ b v hg).trans h

set_option maxRecDepth 100000 in
set_option maxHeartbeats 2000000 in
theorem parse_few (s : List UInt8) (w : World) (hz : s.length ≤ 140737488351232) (h3 : (M5.split 3 s).length ≠ 3) :
    Calls Tryd.prog 25 #[.string (bs s)] w fun e w' => e = .returned (parsedV none) ∧ Below w.heap.size w w' := by
  go_enter Tryd.func25, Tryd.ntmps25
  go_wp2_with fail
  refine (splitN_any s _ (by omega)).mono ?_
  rintro e w1 ⟨A, k, c, rfl, hr, hl, hb⟩
  have hk : ((k : Int) == 3) = false := by simp; omega
  have hk2 : ((k : Int) != 3) = true := by simp; omega
  have q := fun (o : Nat) => hb.cell (p := ⟨w.heap.size, o, none⟩) (show w.heap.size < _ by simp)
  have q0 := q 0
  have q1 := q 1
  have q2 := q 2
  have f := fun (o : Nat) => hb.frozen (p := ⟨w.heap.size, o, none⟩) (show w.heap.size < _ by simp)
  have f0 := f 0
  have f1 := f 1
  have f2 := f 2
  clear q f hr hl
  simp at q0 q1 q2 f0 f1 f2
  go_wp2
  exact bodyPost_ret (v := .tuple #[.agg #[.int .i64 0, .int .i64 0, .int .i64 0], .bool false]) (by simp [results, Tryd.results25, go_sem, q0, q1, q2]) rfl ⟨rfl, set3 (chain (new1 w _) hb) (Nat.le_refl _) _ _ _⟩

/-- WHAT THE LOOP OF Parse KEEPS. -/
def ParRel (p0 p1 p2 : List UInt8) (w w1 : World) (i : Value) (wr : World) : Prop :=
  ∃ (z a b c : Int), (z = 0 ∨ z = 1 ∨ z = 2 ∨ z = 3) ∧ i = .int .i64 z ∧ Hid (0 < z → Lib.atoiAll p0 = .ok a) ∧ Hid (1 < z → Lib.atoiAll p1 = .ok b) ∧ Hid (2 < z → Lib.atoiAll p2 = .ok c) ∧
    Hid (Trio wr w1.heap.size 54 a b c) ∧ Hid (Trio wr w.heap.size 25 0 0 0) ∧ Below w.heap.size w wr ∧ Below w1.heap.size w1 wr
theorem rd_ts {w : World} {A : Option Addr} {l : List (List UInt8)} (h : Rd w A (ts l)) {k : Nat} (hk : k < l.length) {x : List UInt8} (hx : l[k] = x) :
    ∃ b off, A = some ⟨b, off, none⟩ ∧ b < w.heap.size ∧ w.cell? ⟨b, off + k, none⟩ = some (.string (bs x)) := by
  obtain ⟨b, off, e, hb, hc⟩ := h.get (k := k) (by rw [ts_len]; exact hk)
  refine ⟨b, off, e, hb, hc.trans ?_⟩
  rw [← hx]; simp [ts]

set_option maxRecDepth 100000 in
set_option maxHeartbeats 4000000 in
theorem parse_three (s p0 p1 p2 : List UInt8) (w : World) (hz : s.length ≤ 140737488351232) (he : Env w) (h3 : M5.split 3 s = [p0, p1, p2]) (hp : p0.length ≤ 140737488351232 ∧ p1.length ≤ 140737488351232 ∧ p2.length ≤ 140737488351232) :
    Calls Tryd.prog 25 #[.string (bs s)] w fun e w' => e = .returned (parsedV (parseR s)) ∧ Below w.heap.size w w' := by
  have H3 := Lib.hid h3
  have HE := Lib.hid he
  obtain ⟨z0, z1, z2⟩ := hp
  clear h3 he
  go_enter Tryd.func25, Tryd.ntmps25
  go_wp2_with fail
  refine (splitN_any s _ (by omega)).mono ?_
  rintro e w1 ⟨A, k, c, rfl, hr, hl, hb⟩
  rw [H3.out] at hr hl
  obtain rfl : k = 3 := by simpa using hl.symm
  have HR := Lib.hid hr
  have hbw := chain (new1 w _) hb
  have ht : Trio w1 w.heap.size 25 0 0 0 := by
    have h0 : Trio (w.alloc (.cells #[.int .i64 0, .int .i64 0, .int .i64 0] 25)) w.heap.size 25 0 0 0 := heap_alloc_new w _
    exact h0.keep hb
  have hlt : w.heap.size < w1.heap.size := by have := hb.size; simp at this; omega
  have hs : ParRel p0 p1 p2 w w1 (.int .i64 0) (w1.alloc (.cells #[.int .i64 0, .int .i64 0, .int .i64 0] 54)) :=
    ⟨0, 0, 0, 0, .inl rfl, rfl, fun h => by omega, fun h => by omega, fun h => by omega, heap_alloc_new w1 _, ht.keep (new1 w1 _), chain hbw (new1 w1 _), new1 w1 _⟩
  have HS := Lib.hid hs
  clear hl hr hbw ht hs hb
  go_wp2
  go_loopw [6, 7, 8, 9, 19] (fun _ _ _ _ i wr => ParRel p0 p1 p2 w w1 i wr) (fun _ _ _ _ i _ => 3 - (intOf i).toNat)
  case atStart => exact HS.out
  case round =>
    clear HS
    obtain ⟨z, a, b, d, hz4, rfl, HA, HB, HD, HT, HZ, hbw, hb1⟩ := hrel
    have hrd := HR.out.keep hb1
    rcases hz4 with rfl | rfl | rfl | rfl
    · obtain ⟨bb, off, rfl, hbl, hc⟩ := rd_ts hrd (k := 0) (by simp) (x := p0) rfl
      rw [Nat.add_zero] at hc
      by_cases hok : ∃ v, Lib.atoiAll p0 = .ok v
      · obtain ⟨v, hv⟩ := hok
        have HV := Lib.hid hv
        clear hv hrd
        go_wp2_with fail
        refine (atoi_ok HV.out (by omega) _).mono ?_
        rintro e w2 ⟨rfl, hb2⟩
        have hT := HT.out.keep hb2
        have hZ := HZ.out.keep hb2
        obtain ⟨y0, y1, y2⟩ := hT.cells
        have f0 := hT.thawed 0
        have hrel : ParRel p0 p1 p2 w w1 (.int .i64 1) (w2.setCell ⟨w1.heap.size, 0, none⟩ (.int .i64 v)) := by
          have hv := HV.out
          exact ⟨1, v, b, d, by omega, rfl, fun _ => hv, fun h => by omega, fun h => by omega, hT.set0 v, hZ.other (by omega) _, (chain hbw hb2).setCell (by simp; omega) _, (chain hb1 hb2).setCell (Nat.le_refl _) _⟩
        have HRL := Lib.hid hrel
        clear hT hZ hb2 hrel
        go_wp2
        go_roundw
        case rel => exact HRL.out
        case measure => simp [intOf]
      · have HN : Hid (parseR s = none) := parse_bad fun q0 q1 q2 x y u hs e0 e1 e2 => by
          rw [H3.out] at hs
          injection hs with s0 hs; injection hs with s1 hs; injection hs with s2 _
          subst s0; subst s1; subst s2
          exact hok ⟨_, e0⟩
        have HOK := Lib.hid (fun v h => hok ⟨v, h⟩ : ∀ v, Lib.atoiAll p0 ≠ .ok v)
        have HEW := Lib.hid (HE.out.keep hbw)
        clear hok hrd
        go_wp2_with fail
        refine (atoi_bad HOK.out (by omega) _ HEW.out).mono ?_
        rintro e w2 ⟨x, N, rfl, hb2⟩
        have hZ := HZ.out.keep hb2
        obtain ⟨q0, q1, q2⟩ := hZ.cells
        have f0 := hZ.thawed 0
        have f1 := hZ.thawed 1
        have f2 := hZ.thawed 2
        have hbe := set3 (chain hbw hb2) (Nat.le_refl _) (.int .i64 0) (.int .i64 0) (.int .i64 0)
        clear hZ hb2
        go_wp2
        exact bodyPost_ret (v := .tuple #[.agg #[.int .i64 0, .int .i64 0, .int .i64 0], .bool false]) (by simp [results, Tryd.results25, go_sem, q0, q1, q2]) rfl ⟨by rw [HN.out]; rfl, hbe⟩
    · obtain ⟨bb, off, rfl, hbl, hc⟩ := rd_ts hrd (k := 1) (by simp) (x := p1) rfl
      by_cases hok : ∃ v, Lib.atoiAll p1 = .ok v
      · obtain ⟨v, hv⟩ := hok
        have HV := Lib.hid hv
        clear hv hrd
        go_wp2_with fail
        refine (atoi_ok HV.out (by omega) _).mono ?_
        rintro e w2 ⟨rfl, hb2⟩
        have hT := HT.out.keep hb2
        have hZ := HZ.out.keep hb2
        obtain ⟨y0, y1, y2⟩ := hT.cells
        have f0 := hT.thawed 1
        have hrel : ParRel p0 p1 p2 w w1 (.int .i64 2) (w2.setCell ⟨w1.heap.size, 1, none⟩ (.int .i64 v)) := by
          have hv := HV.out
          exact ⟨2, a, v, d, by omega, rfl, fun _ => HA.out (by omega), fun _ => hv, fun h => by omega, hT.set1 v, hZ.other (by omega) _, (chain hbw hb2).setCell (by simp; omega) _, (chain hb1 hb2).setCell (Nat.le_refl _) _⟩
        have HRL := Lib.hid hrel
        clear hT hZ hb2 hrel
        go_wp2
        go_roundw
        case rel => exact HRL.out
        case measure => simp [intOf]
      · have HN : Hid (parseR s = none) := parse_bad fun q0 q1 q2 x y u hs e0 e1 e2 => by
          rw [H3.out] at hs
          injection hs with s0 hs; injection hs with s1 hs; injection hs with s2 _
          subst s0; subst s1; subst s2
          exact hok ⟨_, e1⟩
        have HOK := Lib.hid (fun v h => hok ⟨v, h⟩ : ∀ v, Lib.atoiAll p1 ≠ .ok v)
        have HEW := Lib.hid (HE.out.keep hbw)
        clear hok hrd
        go_wp2_with fail
        refine (atoi_bad HOK.out (by omega) _ HEW.out).mono ?_
        rintro e w2 ⟨x, N, rfl, hb2⟩
        have hZ := HZ.out.keep hb2
        obtain ⟨q0, q1, q2⟩ := hZ.cells
        have f0 := hZ.thawed 0
        have f1 := hZ.thawed 1
        have f2 := hZ.thawed 2
        have hbe := set3 (chain hbw hb2) (Nat.le_refl _) (.int .i64 0) (.int .i64 0) (.int .i64 0)
        clear hZ hb2
        go_wp2
        exact bodyPost_ret (v := .tuple #[.agg #[.int .i64 0, .int .i64 0, .int .i64 0], .bool false]) (by simp [results, Tryd.results25, go_sem, q0, q1, q2]) rfl ⟨by rw [HN.out]; rfl, hbe⟩
    · obtain ⟨bb, off, rfl, hbl, hc⟩ := rd_ts hrd (k := 2) (by simp) (x := p2) rfl
      by_cases hok : ∃ v, Lib.atoiAll p2 = .ok v
      · obtain ⟨v, hv⟩ := hok
        have HV := Lib.hid hv
        clear hv hrd
        go_wp2_with fail
        refine (atoi_ok HV.out (by omega) _).mono ?_
        rintro e w2 ⟨rfl, hb2⟩
        have hT := HT.out.keep hb2
        have hZ := HZ.out.keep hb2
        obtain ⟨y0, y1, y2⟩ := hT.cells
        have f0 := hT.thawed 2
        have hrel : ParRel p0 p1 p2 w w1 (.int .i64 3) (w2.setCell ⟨w1.heap.size, 2, none⟩ (.int .i64 v)) := by
          have hv := HV.out
          exact ⟨3, a, b, v, by omega, rfl, fun _ => HA.out (by omega), fun _ => HB.out (by omega), fun _ => hv, hT.set2 v, hZ.other (by omega) _, (chain hbw hb2).setCell (by simp; omega) _, (chain hb1 hb2).setCell (Nat.le_refl _) _⟩
        have HRL := Lib.hid hrel
        clear hT hZ hb2 hrel
        go_wp2
        go_roundw
        case rel => exact HRL.out
        case measure => simp [intOf]
      · have HN : Hid (parseR s = none) := parse_bad fun q0 q1 q2 x y u hs e0 e1 e2 => by
          rw [H3.out] at hs
          injection hs with s0 hs; injection hs with s1 hs; injection hs with s2 _
          subst s0; subst s1; subst s2
          exact hok ⟨_, e2⟩
        have HOK := Lib.hid (fun v h => hok ⟨v, h⟩ : ∀ v, Lib.atoiAll p2 ≠ .ok v)
        have HEW := Lib.hid (HE.out.keep hbw)
        clear hok hrd
        go_wp2_with fail
        refine (atoi_bad HOK.out (by omega) _ HEW.out).mono ?_
        rintro e w2 ⟨x, N, rfl, hb2⟩
        have hZ := HZ.out.keep hb2
        obtain ⟨q0, q1, q2⟩ := hZ.cells
        have f0 := hZ.thawed 0
        have f1 := hZ.thawed 1
        have f2 := hZ.thawed 2
        have hbe := set3 (chain hbw hb2) (Nat.le_refl _) (.int .i64 0) (.int .i64 0) (.int .i64 0)
        clear hZ hb2
        go_wp2
        exact bodyPost_ret (v := .tuple #[.agg #[.int .i64 0, .int .i64 0, .int .i64 0], .bool false]) (by simp [results, Tryd.results25, go_sem, q0, q1, q2]) rfl ⟨by rw [HN.out]; rfl, hbe⟩
    · obtain ⟨yy0, yy1, yy2⟩ := HT.out.cells
      have hq := parse_pieces H3.out (HA.out (by omega)) (HB.out (by omega)) (HD.out (by omega))
      by_cases hok : textR a b d = s
      · have HN := Lib.hid (hq.1 hok)
        have HS2 : Hid ((bs (textR a b d)).toList = (bs s).toList) := by show _ = _; rw [hok]
        have hok2 := hq
        clear hq hok
        have HEW := Lib.hid ((HE.out.keep hbw).keep (new1 wr (.cells #[.int .i64 a, .int .i64 b, .int .i64 d] 25)))
        have hbx := chain hbw (new1 wr (.cells #[.int .i64 a, .int .i64 b, .int .i64 d] 25))
        have hX : Trio (wr.alloc (.cells #[.int .i64 a, .int .i64 b, .int .i64 d] 25)) wr.heap.size 25 a b d := heap_alloc_new wr _
        have hZ0 := HZ.out.keep (new1 wr (.cells #[.int .i64 a, .int .i64 b, .int .i64 d] 25))
        have HX := Lib.hid hX
        have HZ0 := Lib.hid hZ0
        have hwr : w.heap.size < wr.heap.size := by have := hb1.size; omega
        clear hX hZ0 hok2 hrd
        go_wp2_with fail
        refine (text_any _ _ _ _ HEW.out).mono ?_
        rintro e w2 ⟨rfl, hb2⟩
        have hZ := HZ0.out.keep hb2
        have hX := HX.out.keep hb2
        obtain ⟨q0, q1, q2⟩ := hZ.cells
        obtain ⟨x0, x1, x2⟩ := hX.cells
        have f0 := hZ.thawed 0
        have f1 := hZ.thawed 1
        have f2 := hZ.thawed 2
        have hbb := chain hbx hb2
        have hne : w.heap.size ≠ wr.heap.size := by omega
        clear hZ hX hb2
        have hcmp : ((bs (textR a b d)).toList == (bs s).toList) = true := beq_iff_eq.2 HS2.out
        have hcmp2 : ((bs (textR a b d)).toList != (bs s).toList) = false := by simp [HS2.out]
        have hbe := set3 hbb (Nat.le_refl _) (.int .i64 a) (.int .i64 b) (.int .i64 d)
        go_wp2
        exact bodyPost_ret (v := .tuple #[.agg #[.int .i64 a, .int .i64 b, .int .i64 d], .bool true]) (by simp [results, Tryd.results25, go_sem, q0, q1, q2]) rfl ⟨by rw [HN.out]; rfl, hbe⟩
      · have HN := Lib.hid (hq.2 hok)
        have HS2 : Hid ((bs (textR a b d)).toList ≠ (bs s).toList) := by show _ ≠ _; rw [bs_toList, bs_toList]; exact hok
        have hok2 := hq
        clear hq hok
        have HEW := Lib.hid ((HE.out.keep hbw).keep (new1 wr (.cells #[.int .i64 a, .int .i64 b, .int .i64 d] 25)))
        have hbx := chain hbw (new1 wr (.cells #[.int .i64 a, .int .i64 b, .int .i64 d] 25))
        have hX : Trio (wr.alloc (.cells #[.int .i64 a, .int .i64 b, .int .i64 d] 25)) wr.heap.size 25 a b d := heap_alloc_new wr _
        have hZ0 := HZ.out.keep (new1 wr (.cells #[.int .i64 a, .int .i64 b, .int .i64 d] 25))
        have HX := Lib.hid hX
        have HZ0 := Lib.hid hZ0
        have hwr : w.heap.size < wr.heap.size := by have := hb1.size; omega
        clear hX hZ0 hok2 hrd
        go_wp2_with fail
        refine (text_any _ _ _ _ HEW.out).mono ?_
        rintro e w2 ⟨rfl, hb2⟩
        have hZ := HZ0.out.keep hb2
        have hX := HX.out.keep hb2
        obtain ⟨q0, q1, q2⟩ := hZ.cells
        obtain ⟨x0, x1, x2⟩ := hX.cells
        have f0 := hZ.thawed 0
        have f1 := hZ.thawed 1
        have f2 := hZ.thawed 2
        have hbb := chain hbx hb2
        have hne : w.heap.size ≠ wr.heap.size := by omega
        clear hZ hX hb2
        have hcmp : ((bs (textR a b d)).toList == (bs s).toList) = false := by simpa using HS2.out
        have hcmp2 : ((bs (textR a b d)).toList != (bs s).toList) = true := by simpa using HS2.out
        have hbe := set3 hbb (Nat.le_refl _) (.int .i64 0) (.int .i64 0) (.int .i64 0)
        go_wp2
        exact bodyPost_ret (v := .tuple #[.agg #[.int .i64 0, .int .i64 0, .int .i64 0], .bool false]) (by simp [results, Tryd.results25, go_sem, q0, q1, q2]) rfl ⟨by rw [HN.out]; rfl, hbe⟩

end Go.Proofs.YthecofkkacieaaaDoor.S5
