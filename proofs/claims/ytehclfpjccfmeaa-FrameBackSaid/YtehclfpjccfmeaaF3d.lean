/-
  Layer 3, walks: Split.
-/
import Derived.Test.YtehclfpjccfmeaaF3c
import Derived.OneCell
namespace Go.Proofs.Ytehclfpjccfmeaa.F3
open Go.RowKit Go.Shelf Go.PlainAid V1 C2 M2 M3
set_option linter.unusedVariables false
attribute [local go_sem] Oper.semAt_some

/-- A struct of two parts in a box. -/
def Boxed2 (W : World) (B : Nat) (t : TypeId) (u v : Value) : Prop := W.heap[B]? = some (.cells #[u, v] t (0, 0))
theorem Boxed2.lt {W : World} {B : Nat} {t : TypeId} {u v : Value} (h : Boxed2 W B t u v) : B < W.heap.size := (Array.getElem?_eq_some_iff.1 h).1
theorem Boxed2.cell0 {W : World} {B : Nat} {t : TypeId} {u v : Value} (h : Boxed2 W B t u v) : W.cell? ⟨B, 0, none⟩ = some u := by simp [World.cell?, show W.heap[B]? = _ from h]
theorem Boxed2.cell1 {W : World} {B : Nat} {t : TypeId} {u v : Value} (h : Boxed2 W B t u v) : W.cell? ⟨B, 1, none⟩ = some v := by simp [World.cell?, show W.heap[B]? = _ from h]
theorem Boxed2.new (W : World) (t : TypeId) (u v : Value) : Boxed2 (W.alloc (.cells #[u, v] t)) W.heap.size t u v := World.alloc_heap_new W _
theorem Boxed2.kept {W W' : World} {row : Option Nat} {B : Nat} {t : TypeId} {u v : Value} (h : Boxed2 W B t u v) (hg : W.grownBy W' row) (hne : some B ≠ row) : Boxed2 W' B t u v := (hg.block B h.lt hne).trans h
theorem Boxed2.own {W W' : World} {row : Option Nat} {B : Nat} {t : TypeId} {u v : Value} (h : Boxed2 W B t u v) (hg : W.grownBy W' row) (hr : ∀ r, row = some r → ∃ o : Obj, W.heap[r]? = some o ∧ o.isCells = false) : Boxed2 W' B t u v :=
  h.kept hg (fun e => by obtain ⟨o, ho, hc⟩ := hr B e.symm; rw [show W.heap[B]? = _ from h] at ho; cases ho; cases hc)

theorem Boxed2.alloc {W : World} {B : Nat} {t : TypeId} {u v : Value} (h : Boxed2 W B t u v) (o : Obj) : Boxed2 (W.alloc o) B t u v := h.kept (World.grownBy_alloc W o none) (by simp)
theorem Boxed2.other {W : World} {B B' : Nat} {t : TypeId} {u v : Value} (h : Boxed2 W B t u v) (hne : B ≠ B') (x : Value) : Boxed2 (W.setCell ⟨B', 0, none⟩ x) B t u v := h.kept (grownBy_setCell' W B' x) (fun e => hne (by cases e; rfl))
theorem Boxed2.not_row {W : World} {B : Nat} {t e : TypeId} {a b : Value} (h : Boxed2 W B t a b) (hte : t ≠ e) {base size k : Nat} {v : Value} {xs : List Value} (hr : W.ownsRow base e size v k xs) : some B ≠ v.ownBlock := by
  rcases hr.2 with ⟨rfl, _⟩ | ⟨g, cap, cur, rfl, _, hgb, _⟩
  · simp [Value.ownBlock]
  · intro e'
    obtain rfl : B = g := by simpa [Value.ownBlock] using e'
    have := (show W.heap[B]? = _ from h).symm.trans hgb
    simp at this
    exact hte this.2

theorem info_str : (Try.prog.info? 9).map (fun i => (i.zero, i.size, i.bytes)) = some (some (.string ⟨#[]⟩), 1, 16) := by kernel_rfl

theorem own_base {w : World} {B B' : Nat} {e : TypeId} {v : Value} {n : Nat} {xs : List Value} (h : w.ownsRow B e 1 v n xs) (hb : B' ≤ B) : w.ownsRow B' e 1 v n xs :=
  ⟨h.1, h.2.imp id (fun ⟨g, cap, cur, a, b, r⟩ => ⟨g, cap, cur, a, Nat.le_trans hb b, r⟩)⟩
theorem Boxed.drew0 {W : World} {B : Nat} {t : TypeId} {v : Value} (h : Boxed W B t v) : Boxed W.drew B t v := h
theorem below_drew0 {B : Nat} {w w' : World} (h : Below B w w') : Below B w w'.drew := ⟨h.os, h.tape, h.output, h.size, h.block⟩
theorem cell_other {W : World} {l b : Nat} {o : Obj} (h : b ≠ l) : (W.putObj l o).cell? ⟨b, 0, none⟩ = W.cell? ⟨b, 0, none⟩ := by
  unfold World.cell?
  rw [World.putObj_heap_other h]

/-- The texts that have come. -/
def txs (p : List Al) : List Value := p.map fun x => Value.string (bs x.1.1.1)
def evl (p : List Al) : List Ev := p.map fun x : Al => x.1
def used (s : ByteArray) (p : List Al) : Int := (s.size : Int) - ((behind s.data.toList (evl p)).length : Int)
def lastE (p : List Al) : Int := (evl p).getLast?.elim 0 (·.2)
theorem lastE_snoc (p : List Al) (x : Al) : lastE (p ++ [x]) = x.1.2 := by simp [lastE, evl]

set_option maxRecDepth 100000 in
set_option maxHeartbeats 4000000 in
theorem split_any (A : Option Addr) (c : Nat) (s : ByteArray) (hs : s.size ≤ 1099511627776) (w : World) (hr : Rd w A (u32s tab)) :
    Calls Try.prog 14 #[.slice A 256 c, .string s] w fun e w' => ∃ v, e = .returned (.tuple #[v, .int .i64 ((s.size : Int) - ((split s.data.toList).2.1.length : Int)), .int .i64 (split s.data.toList).2.2]) ∧
      w'.ownsRow w.heap.size 9 1 v (split s.data.toList).1.length ((split s.data.toList).1.map fun l => Value.string (bs l)) ∧ Below w.heap.size w w' := by
  have HR := Lib.hid hr
  clear hr
  refine (callsIn_wide (n := 9)).1 ?_
  refine callsIn_of_wp_marks Try.func14 rfl trivial ?_ rfl
  simp only [Try.ntmps14, List.size_toArray, List.length_cons, List.length_nil, Nat.reduceAdd, Nat.reduceSub, Array.replicate_succ, Array.replicate_zero, List.push_toArray, List.append_toArray, List.nil_append, List.cons_append]
  have hb4 : Below w.heap.size w ((((w.alloc (.cells #[.string s] 9)).alloc (.cells #[.slice none 0 0] 31)).alloc (.cells #[.int .i64 0] 3)).alloc (.cells #[.int .i64 0] 25)) :=
    ((((Below.refl _ w).alloc (Nat.le_refl _) _).alloc (by simp) _).alloc (by simp; omega) _).alloc (by simp; omega) _
  have HR4 := Lib.hid (HR.out.keep hb4)
  gi_wp2_with (fail)
  refine ⟨trivial, (callsIn_wide.2 (terr_tab A c _ HR4.out)).mono ?_⟩
  rintro e w1 ⟨rfl, rfl⟩
  gi_wp2_with (fail)
  refine ⟨trivial, (frames_in _ A 256 c s _).mono ?_⟩
  rintro e w1 ⟨rfl, rfl⟩
  gi_wp2_with (fail)
  obtain ⟨W4, hW4⟩ : ∃ W4, ((((w.alloc (.cells #[.string s] 9)).alloc (.cells #[.slice none 0 0] 31)).alloc (.cells #[.int .i64 0] 3)).alloc (.cells #[.int .i64 0] 25)) = W4 := ⟨_, rfl⟩
  have bS : Boxed W4 w.heap.size 9 (.string s) := by rw [← hW4]; exact (((Boxed.new w _ _).alloc _).alloc _).alloc _
  have bL : Boxed W4 (w.heap.size + 1) 31 (.slice none 0 0) := by
    rw [← hW4]
    have := Boxed.new (w.alloc (.cells #[.string s] 9)) 31 (.slice none 0 0)
    rw [World.size_alloc] at this
    exact (this.alloc _).alloc _
  have bU : Boxed W4 (w.heap.size + 1 + 1) 3 (.int .i64 0) := by
    rw [← hW4]
    have := Boxed.new ((w.alloc (.cells #[.string s] 9)).alloc (.cells #[.slice none 0 0] 31)) 3 (.int .i64 0)
    rw [World.size_alloc, World.size_alloc] at this
    exact this.alloc _
  have bE : Boxed W4 (w.heap.size + 1 + 1 + 1) 25 (.int .i64 0) := by
    rw [← hW4]
    have := Boxed.new (((w.alloc (.cells #[.string s] 9)).alloc (.cells #[.slice none 0 0] 31)).alloc (.cells #[.int .i64 0] 3)) 25 (.int .i64 0)
    rw [World.size_alloc, World.size_alloc, World.size_alloc] at this
    exact this
  have hsz4 : W4.heap.size = w.heap.size + 1 + 1 + 1 + 1 := by rw [← hW4]; simp
  rw [hW4] at hb4 HR4 ⊢
  clear hW4
  have bT := (Boxed.new W4 23 (.slice A 256 c)).alloc (.cells #[.string s] 9)
  have bR := Boxed.new (W4.alloc (.cells #[.slice A 256 c] 23)) 9 (.string s)
  rw [World.size_alloc] at bR
  have hb6 : Below w.heap.size w ((W4.alloc (.cells #[.slice A 256 c] 23)).alloc (.cells #[.string s] 9)) := (hb4.alloc (by omega) _).alloc (by simp; omega) _
  have bS := (bS.alloc (.cells #[.slice A 256 c] 23)).alloc (.cells #[.string s] 9)
  have bL := (bL.alloc (.cells #[.slice A 256 c] 23)).alloc (.cells #[.string s] 9)
  have bU := (bU.alloc (.cells #[.slice A 256 c] 23)).alloc (.cells #[.string s] 9)
  have bE := (bE.alloc (.cells #[.slice A 256 c] 23)).alloc (.cells #[.string s] 9)
  have hsz : ((W4.alloc (.cells #[.slice A 256 c] 23)).alloc (.cells #[.string s] 9)).heap.size = w.heap.size + 6 := by simp; omega
  obtain ⟨W0, hW0⟩ : ∃ W0, (W4.alloc (.cells #[.slice A 256 c] 23)).alloc (.cells #[.string s] 9) = W0 := ⟨_, rfl⟩
  rw [hW0] at bS bL bU bE bT bR hb6 hsz ⊢
  clear hW0 hb4
  rw [hsz4] at bR bT
  obtain ⟨i0, hi, hz0, hz1, hz2⟩ := info_parts info_str
  have hrow0 : W0.ownsRow (w.heap.size + 1) 9 1 (.slice none 0 0) 0 [] := World.ownsRow_nil _ _ _ _
  have hu0 : used s [] = 0 := by show (s.size : Int) - (s.data.toList.length : Int) = 0; rw [show s.size = s.data.toList.length from rfl]; omega
  refine wpIn_rangeFunc_ownH rfl (by omega) (gf := 33) (lb := #[.pointer (some ⟨w.heap.size + 1 + 1 + 1 + 1 + 1, 0, none⟩), .pointer (some ⟨w.heap.size + 1 + 1 + 1 + 1, 0, none⟩)]) rfl trivial (enters_of Try.func33 (by kernel_rfl) rfl)
    (frames_stops _ (by omega) (w.heap.size + 1 + 1 + 1 + 1 + 1) (w.heap.size + 1 + 1 + 1 + 1) w.heap.size A c s hs w W0 (Nat.le_refl _) HR.out (by omega) bR.cell bT.cell hb6) Kp.t
    (fun W l o o' hl h hc hw => ⟨belowK_b (w := W0) (by omega) W l o o' hl h hc hw, cell_other (by omega)⟩) (Below.refl _ _) (fun _ => rfl)
    (fun pre W => (((∃ v, Boxed W (w.heap.size + 1) 31 v ∧ W.ownsRow (w.heap.size + 1) 9 1 v pre.length (txs pre) ∧ True) ∧ (Boxed W (w.heap.size + 1 + 1) 3 (.int .i64 (used s pre)) ∧ Boxed W (w.heap.size + 1 + 1 + 1) 25 (.int .i64 0))) ∧ ((Boxed W w.heap.size 9 (.string s) ∧ Boxed W (w.heap.size + 1 + 1 + 1 + 1) 23 (.slice A 256 c)) ∧ ∀ x ∈ pre, x.1.2 = 0)) ∧ Below w.heap.size w W)
    (fun cd pre W => (((∃ v, Boxed W (w.heap.size + 1) 31 v ∧ W.ownsRow (w.heap.size + 1) 9 1 v pre.dropLast.length (txs pre.dropLast) ∧ True) ∧ (Boxed W (w.heap.size + 1 + 1) 3 (.int .i64 (used s pre.dropLast)) ∧ Boxed W (w.heap.size + 1 + 1 + 1) 25 (.int .i64 (lastE pre)))) ∧ (cd = .ret ∧ ∃ p x, pre = p ++ [x] ∧ x.1.2 ≠ 0 ∧ ∀ x ∈ p, x.1.2 = 0)) ∧ Below w.heap.size w W)
    (OwnFrom.and (OwnFrom.and (OwnFrom.and (Own.from (holdsRow_own (w.heap.size + 1) (w.heap.size + 1) 31 9 1 (fun pre : List Al => pre.length) (fun pre => txs pre) (fun _ _ => True)) _) (OwnFrom.and (Own.from (boxed_own _ _ (fun pre : List Al => .int .i64 (used s pre))) _) (Own.from (boxed_own _ _ (fun _ : List Al => .int .i64 0)) _))) (OwnFrom.and (OwnFrom.and (Own.from (boxed_own _ _ (fun _ : List Al => .string s)) _) (Own.from (boxed_own _ _ (fun _ : List Al => .slice A 256 c)) _)) (ownFrom_pure _ _))) (ownFrom_below (Nat.le_refl _) (by omega)))
    (fun cd => OwnFrom.and (OwnFrom.and (OwnFrom.and (Own.from (holdsRow_own (w.heap.size + 1) (w.heap.size + 1) 31 9 1 (fun pre : List Al => pre.dropLast.length) (fun pre => txs pre.dropLast) (fun _ _ => True)) _) (OwnFrom.and (Own.from (boxed_own _ _ (fun pre : List Al => .int .i64 (used s pre.dropLast))) _) (Own.from (boxed_own _ _ (fun pre : List Al => .int .i64 (lastE pre))) _))) (ownFrom_pure _ _)) (ownFrom_below (Nat.le_refl _) (by omega)))
    ⟨⟨⟨⟨_, bL, hrow0, trivial⟩, by rw [hu0]; exact bU, bE⟩, ⟨bS, bT⟩, by simp⟩, hb6⟩
    (fun x a' W => ∃ Bx, w.heap.size + 4 < Bx ∧ Boxed2 W Bx 54 (.string (bs x.1.1.1)) (.string (bs x.1.1.2)) ∧ a' = { tmps := #[.slice A 256 c, .string s, undef, .pointer (some ⟨w.heap.size, 0, none⟩), .pointer (some ⟨w.heap.size + 1, 0, none⟩), .pointer (some ⟨w.heap.size + 1 + 1, 0, none⟩), .pointer (some ⟨w.heap.size + 1 + 1 + 1, 0, none⟩), .pointer (some ⟨Bx, 0, none⟩), .int .i64 x.1.2, .slice A 256 c, .int .i64 0, .int .i64 0, .bool false, undef, .slice A 256 c, .string s,
      .func (.func 33) #[] #[.pointer (some ⟨w.heap.size + 1 + 1 + 1 + 1 + 1, 0, none⟩), .pointer (some ⟨w.heap.size + 1 + 1 + 1 + 1, 0, none⟩)], .agg #[.string (bs x.1.1.1), .string (bs x.1.1.2)], .int .i64 x.1.2, undef, undef, undef, undef, undef, undef, undef, undef, undef, undef, undef, undef, undef, undef, undef, undef, undef, undef], defers := [] })
    (fun x a' _ X Y row hs hg hr => by obtain ⟨Bx, h1, h2, h3⟩ := hs; exact ⟨Bx, h1, h2.own hg (fun r e => (hr r e).2), h3⟩)
    ?assign ?body ?done ?stop
  case assign =>
    rintro l pre x W K ⟨⟨⟨⟨v, bL1, hrow1, _⟩, bU1, bE1⟩, ⟨bS1, bT1⟩, hzz⟩, hB1⟩ hK
    gi_wp2
    exact hK _ _ ((KeepsOthers.alloc _ _).from _) ⟨(Below.refl _ W).alloc hB1.size _, (bT1.alloc _).cell.trans bT1.cell.symm⟩ ⟨⟨⟨⟨v, bL1.alloc _, hrow1.alloc _, trivial⟩, bU1.alloc _, bE1.alloc _⟩, ⟨bS1.alloc _, bT1.alloc _⟩, hzz⟩, hB1.alloc hB1.size _⟩ ⟨W.heap.size, bT1.lt, Boxed2.new W _ _ _, rfl⟩
  case body =>
    rintro l pre x a' W hl ⟨r, hr⟩ ⟨⟨⟨⟨v, bL1, hrow1, _⟩, bU1, bE1⟩, ⟨bS1, bT1⟩, hzz⟩, hB1⟩ ⟨Bx, hBx, bX, rfl⟩ hlt
    have cL := bL1.cell
    have fL := bL1.frozen
    have cU := bU1.cell
    have fU := bU1.frozen
    have cE := bE1.cell
    have fE := bE1.frozen
    have cS := bS1.cell
    have nU := (bU1.not_row (by decide) hrow1).symm
    have nL := (bL1.not_row (by decide) hrow1).symm
    have nE := (bE1.not_row (by decide) hrow1).symm
    have nX := bX.not_row (by decide) hrow1
    have nT := bT1.not_row (by decide) hrow1
    have hdl : (pre ++ [x]).dropLast = pre := by simp
    have hnS : some w.heap.size ≠ v.ownBlock := fun e => by have := (hrow1.lt _ e.symm).1; omega
    have hle := lastE_snoc pre x
    by_cases hx : x.1.2 = 0
    · rw [hx]
      have cX0 := bX.cell0
      have cX1 := bX.cell1
      have hbs : (bs x.1.1.2).size = x.1.1.2.length := rfl
      have hw : IntKind.i64.wrap ((s.size : Int) - (x.1.1.2.length : Int)) = (s.size : Int) - (x.1.1.2.length : Int) := IntWalk.i64_in _ (by have := x.2.2; omega)
      have hus : used s (pre ++ [x]) = (s.size : Int) - (x.1.1.2.length : Int) := by
        unfold used evl
        rw [List.map_append, List.map_singleton, behind_snoc]
      gi_wp2_with (gi_at_builtin; refine wpListIn_append_own _ rfl _ _ 31 rfl (w.heap.size + 1) 9 i0 (.string ⟨#[]⟩) 1 16 Try.underlying31 hi hz0 hz1 hz2 rfl (by decide) _ _ _ rfl (hrow1.alloc _) ⟨W.heap.size, 0, none⟩ 1 1 [.string (bs x.1.1.1)] rfl rfl (cell_one_new _ _ _) (by simp [Value.oneCell']) (by unfold maxLen; omega) (by omega) (by have := bL1.lt; simp; omega) ?_; intro v' w1 hown' hgrow _; obtain ⟨g', cap', rfl⟩ := ownsRow_succ hown'; obtain ⟨hv1, hv2, hr2, hk2, hb2⟩ := bL1.appended (by decide) hrow1 (Nat.le_of_lt bL1.lt) (Nat.le_refl _) hown' hgrow; have hc1 := hv1.cell; have hf1 := hv1.frozen; have bS2 := (bS1.alloc _).kept hgrow hnS; have cS2 := bS2.cell; have bU2 := (bU1.alloc _).kept hgrow nU.symm; have cU2 := bU2.cell; have fU2 := bU2.frozen; have bX2 := (bX.alloc _).kept hgrow nX; have cX2 := bX2.cell1; have bE2 := (bE1.alloc _).kept hgrow nE.symm; have bT2 := (bT1.alloc _).kept hgrow nT; clear hgrow)
      have ht : txs (pre ++ [x]) = txs pre ++ [Value.string (bs x.1.1.1)] := by simp [txs]
      have hlen : (pre ++ [x]).length = pre.length + 1 := by simp
      have hall : ∀ y ∈ pre ++ [x], y.1.2 = 0 := fun y hy => (List.mem_append.1 hy).elim (hzz y) (fun e => by rw [List.mem_singleton.1 e]; exact hx)
      have bT3 := (bT2.other (show w.heap.size + 1 + 1 + 1 + 1 ≠ w.heap.size + 1 by omega) (.slice (some ⟨g', 0, none⟩) (pre.length + 1) cap')).other (show w.heap.size + 1 + 1 + 1 + 1 ≠ w.heap.size + 1 + 1 by omega) (.int .i64 ((s.size : Int) - (x.1.1.2.length : Int)))
      have hb3 := (hb2.mono (Nat.le_succ w.heap.size)).setCell (p := ⟨w.heap.size + 1 + 1, 0, none⟩) (by simp; omega) (.int .i64 ((s.size : Int) - (x.1.1.2.length : Int)))
      have hr3 := ownsRow_setCell_other (a := ⟨w.heap.size + 1 + 1, 0, none⟩) hr2 ((bU2.other (show w.heap.size + 1 + 1 ≠ w.heap.size + 1 by omega) _).not_row (by decide) hr2).symm (.int .i64 ((s.size : Int) - (x.1.1.2.length : Int)))
      refine ⟨(hk2.trans (KeepsOthers.setCell _ _ _)).from _, ⟨hb3, bT3.cell.trans bT1.cell.symm⟩, ⟨⟨⟨_, hv2.other (by omega) _, ?_, trivial⟩, ?_, (bE2.other (by omega) _).other (by omega) _⟩, ⟨(bS2.other (by omega) _).other (by omega) _, bT3⟩, hall⟩, hB1.trans hb3⟩
      · rw [ht, hlen]; exact hr3
      · rw [hus]; exact (bU2.other (by omega) _).set _
    · have hd2 : (x.1.2 != (0 : Int)) = true := by rw [bne_iff_ne]; omega
      have hmo : Try.prog.follows .mixedOrders = true := by kernel_rfl
      obtain ⟨A', c', rfl, _, _⟩ := Rd.of_own hrow1
      have eL : Boxed (((W.setCell ⟨w.heap.size + 1, 0, none⟩ (.slice A' pre.length c')).setCell ⟨w.heap.size + 1 + 1, 0, none⟩ (.int .i64 (used s pre))).setCell ⟨w.heap.size + 1 + 1 + 1, 0, none⟩ (.int .i64 x.1.2)) (w.heap.size + 1) 31 (.slice A' pre.length c') := ((bL1.set _).other (by omega) _).other (by omega) _
      have eU : Boxed (((W.setCell ⟨w.heap.size + 1, 0, none⟩ (.slice A' pre.length c')).setCell ⟨w.heap.size + 1 + 1, 0, none⟩ (.int .i64 (used s pre))).setCell ⟨w.heap.size + 1 + 1 + 1, 0, none⟩ (.int .i64 x.1.2)) (w.heap.size + 1 + 1) 3 (.int .i64 (used s (pre ++ [x]).dropLast)) := by
        rw [hdl]
        exact ((bU1.other (by omega) _).set _).other (by omega) _
      have eE : Boxed (((W.setCell ⟨w.heap.size + 1, 0, none⟩ (.slice A' pre.length c')).setCell ⟨w.heap.size + 1 + 1, 0, none⟩ (.int .i64 (used s pre))).setCell ⟨w.heap.size + 1 + 1 + 1, 0, none⟩ (.int .i64 x.1.2)) (w.heap.size + 1 + 1 + 1) 25 (.int .i64 (lastE (pre ++ [x]))) := by
        rw [hle]
        exact ((bE1.other (by omega) _).other (by omega) _).set _
      have eR : (((W.setCell ⟨w.heap.size + 1, 0, none⟩ (.slice A' pre.length c')).setCell ⟨w.heap.size + 1 + 1, 0, none⟩ (.int .i64 (used s pre))).setCell ⟨w.heap.size + 1 + 1 + 1, 0, none⟩ (.int .i64 x.1.2)).ownsRow (w.heap.size + 1) 9 1 (.slice A' pre.length c') (pre ++ [x]).dropLast.length (txs (pre ++ [x]).dropLast) := by
        rw [hdl]
        exact ownsRow_setCell_other (a := ⟨w.heap.size + 1 + 1 + 1, 0, none⟩) (ownsRow_setCell_other (a := ⟨w.heap.size + 1 + 1, 0, none⟩) (ownsRow_setCell_other (a := ⟨w.heap.size + 1, 0, none⟩) hrow1 nL (.slice A' pre.length c')) nU (.int .i64 (used s pre))) nE (.int .i64 x.1.2)
      have eB := ((hB1.setCell (p := ⟨w.heap.size + 1, 0, none⟩) (by simp) (.slice A' pre.length c')).setCell (p := ⟨w.heap.size + 1 + 1, 0, none⟩) (by simp; omega) (.int .i64 (used s pre))).setCell (p := ⟨w.heap.size + 1 + 1 + 1, 0, none⟩) (by simp; omega) (.int .i64 x.1.2)
      have eK := ((KeepsOthers.setCell W ⟨w.heap.size + 1, 0, none⟩ (.slice A' pre.length c')).trans (KeepsOthers.setCell _ ⟨w.heap.size + 1 + 1, 0, none⟩ (.int .i64 (used s pre)))).trans (KeepsOthers.setCell _ ⟨w.heap.size + 1 + 1 + 1, 0, none⟩ (.int .i64 x.1.2))
      have EL := Lib.hid eL
      have EU := Lib.hid eU
      have EE := Lib.hid eE
      have ER := Lib.hid eR
      have EB := Lib.hid eB
      have EK := Lib.hid eK
      clear eL eU eE eR eB eK
      gi_wp2
      gi_region_with_o (fail)
      all_goals gi_wp2
      all_goals exact ⟨(EK.out.trans (KeepsOthers.drew _)).from _, ⟨⟨⟨_, EL.out, ER.out, trivial⟩, EU.out, EE.out⟩, rfl, pre, x, rfl, hx, hzz⟩, below_drew0 EB.out⟩
  case done =>
    rintro D ys W hD hys ⟨⟨⟨⟨v, bL1, hrow1, _⟩, bU1, bE1⟩, ⟨bS1, bT1⟩, hzz⟩, hB1⟩ hK
    have hevl : evl ys = evs s.data.toList := hys
    have hal : ∀ y ∈ evs s.data.toList, y.2 = 0 := by
      rw [← hevl]
      intro y hy
      obtain ⟨z, hz, rfl⟩ := List.mem_map.1 hy
      exact hzz z hz
    obtain ⟨hsp, hbh⟩ := split_all s.data.toList.length s.data.toList (Nat.le_refl _) hal
    have hus : used s ys = (s.size : Int) - ((split s.data.toList).2.1.length : Int) := by unfold used; rw [hevl, hbh, hsp]
    have htx : txs ys = (split s.data.toList).1.map (fun l => Value.string (bs l)) := by rw [hsp, ← hevl]; simp [txs, evl]
    have hln : ys.length = (split s.data.toList).1.length := by rw [hsp, ← hevl]; simp [evl]
    have he0 : (split s.data.toList).2.2 = 0 := by rw [hsp]
    have hfin := own_base (B' := w.heap.size) hrow1 (by omega)
    rw [htx, hln] at hfin
    rw [hus] at bU1
    rw [← he0] at bE1
    clear hsp hbh hal hevl hys hus
    have nU := (bU1.not_row (by decide) hfin).symm
    have nL := (bL1.not_row (by decide) hfin).symm
    have nE := (bE1.not_row (by decide) hfin).symm
    obtain ⟨A', c', rfl, _, _⟩ := Rd.of_own hfin
    have hmo : Try.prog.follows .mixedOrders = true := by kernel_rfl
    have eL : Boxed (((W.setCell ⟨w.heap.size + 1, 0, none⟩ (.slice A' (split s.data.toList).1.length c')).setCell ⟨w.heap.size + 1 + 1, 0, none⟩ (.int .i64 ((s.size : Int) - ((split s.data.toList).2.1.length : Int)))).setCell ⟨w.heap.size + 1 + 1 + 1, 0, none⟩ (.int .i64 0)) (w.heap.size + 1) 31 (.slice A' (split s.data.toList).1.length c') := ((bL1.set _).other (by omega) _).other (by omega) _
    have eU : Boxed (((W.setCell ⟨w.heap.size + 1, 0, none⟩ (.slice A' (split s.data.toList).1.length c')).setCell ⟨w.heap.size + 1 + 1, 0, none⟩ (.int .i64 ((s.size : Int) - ((split s.data.toList).2.1.length : Int)))).setCell ⟨w.heap.size + 1 + 1 + 1, 0, none⟩ (.int .i64 0)) (w.heap.size + 1 + 1) 3 (.int .i64 ((s.size : Int) - ((split s.data.toList).2.1.length : Int))) := ((bU1.other (by omega) _).set _).other (by omega) _
    have eE : Boxed (((W.setCell ⟨w.heap.size + 1, 0, none⟩ (.slice A' (split s.data.toList).1.length c')).setCell ⟨w.heap.size + 1 + 1, 0, none⟩ (.int .i64 ((s.size : Int) - ((split s.data.toList).2.1.length : Int)))).setCell ⟨w.heap.size + 1 + 1 + 1, 0, none⟩ (.int .i64 0)) (w.heap.size + 1 + 1 + 1) 25 (.int .i64 0) := ((bE1.other (by omega) _).other (by omega) _).set _
    have eR := ownsRow_setCell_other (a := ⟨w.heap.size + 1 + 1 + 1, 0, none⟩) (ownsRow_setCell_other (a := ⟨w.heap.size + 1 + 1, 0, none⟩) (ownsRow_setCell_other (a := ⟨w.heap.size + 1, 0, none⟩) hfin nL (.slice A' (split s.data.toList).1.length c')) nU (.int .i64 ((s.size : Int) - ((split s.data.toList).2.1.length : Int)))) nE (.int .i64 0)
    have eB := ((hB1.setCell (p := ⟨w.heap.size + 1, 0, none⟩) (by simp) (.slice A' (split s.data.toList).1.length c')).setCell (p := ⟨w.heap.size + 1 + 1, 0, none⟩) (by simp; omega) (.int .i64 ((s.size : Int) - ((split s.data.toList).2.1.length : Int)))).setCell (p := ⟨w.heap.size + 1 + 1 + 1, 0, none⟩) (by simp; omega) (.int .i64 0)
    have eK := (((KeepsOthers.setCell W ⟨w.heap.size + 1, 0, none⟩ (.slice A' (split s.data.toList).1.length c')).trans (KeepsOthers.setCell _ ⟨w.heap.size + 1 + 1, 0, none⟩ (.int .i64 ((s.size : Int) - ((split s.data.toList).2.1.length : Int))))).trans (KeepsOthers.setCell _ ⟨w.heap.size + 1 + 1 + 1, 0, none⟩ (.int .i64 0))).same D _ hK rfl
    have EL := Lib.hid eL
    have EU := Lib.hid eU
    have EE := Lib.hid eE
    have ER := Lib.hid eR
    have EB := Lib.hid eB
    have EK := Lib.hid eK
    have HE0 := Lib.hid he0
    have cL := bL1.cell
    have fL := bL1.frozen
    have cU := bU1.cell
    have fU := bU1.frozen
    have cE := bE1.cell
    have fE := bE1.frozen
    clear eL eU eE eR eB eK he0 htx hln hzz
    gi_wp2
    gi_region_with_o (fail)
    all_goals gi_wp2
    all_goals refine ⟨by simp, .inl ⟨_, _, rfl, run_takeDeferred EK.out, ?_⟩⟩
    all_goals have hDL : some (w.heap.size + 1) ≠ some D := by simp; omega
    all_goals have hDU : some (w.heap.size + 1 + 1) ≠ some D := by simp; omega
    all_goals have hDE : some (w.heap.size + 1 + 1 + 1) ≠ some D := by simp; omega
    all_goals have c1 := ((Boxed.drew0 EL.out).kept (grownBy_putObj' _ D (.deferred none)) hDL).cell
    all_goals have c2 := ((Boxed.drew0 EU.out).kept (grownBy_putObj' _ D (.deferred none)) hDU).cell
    all_goals have c3 := ((Boxed.drew0 EE.out).kept (grownBy_putObj' _ D (.deferred none)) hDE).cell
    all_goals refine ⟨.tuple #[.slice A' (split s.data.toList).1.length c', _, .int .i64 (split s.data.toList).2.2], ?_, _, rfl, ownsRow_putObj ER.out.drew _ EK.out rfl, (below_drew0 EB.out).trans (belowK_b (w := w) (Nat.le_refl _) _ D _ _ (by omega) EK.out rfl rfl)⟩
    all_goals rw [HE0.out]
    all_goals simp [results, Try.f14, go_sem, c1, c2, c3]
  case stop =>
    rintro D cd pre W hD hpre ⟨⟨⟨⟨v, bL1, hrow1, _⟩, bU1, bE1⟩, rfl, p, x, rfl, hx, hzz⟩, hB1⟩ hK
    have hdl : (p ++ [x]).dropLast = p := by simp
    rw [hdl] at hrow1 bU1
    rw [lastE_snoc] at bE1
    have hpre2 : evl p ++ [x.1] <+: evs s.data.toList := by
      have := hpre
      rw [List.map_append, List.map_singleton] at this
      exact this
    have hsp := split_part s.data.toList.length s.data.toList (evl p) x.1 (Nat.le_refl _) hpre2 (fun y hy => by obtain ⟨z, hz, rfl⟩ := List.mem_map.1 hy; exact hzz z hz) hx
    have hus : used s p = (s.size : Int) - ((split s.data.toList).2.1.length : Int) := by unfold used; rw [hsp]
    have htx : txs p = (split s.data.toList).1.map (fun l => Value.string (bs l)) := by rw [hsp]; simp [txs, evl]
    have hln : p.length = (split s.data.toList).1.length := by rw [hsp]; simp [evl]
    have he0 : x.1.2 = (split s.data.toList).2.2 := by rw [hsp]
    have hfin := own_base (B' := w.heap.size) hrow1 (by omega)
    rw [htx, hln] at hfin
    rw [hus] at bU1
    rw [he0] at bE1
    clear hsp hpre hpre2 hus he0 hx hzz
    gi_wp2
    refine ⟨by simp, .inl ⟨_, _, rfl, run_takeDeferred hK, ?_⟩⟩
    have hDL : some (w.heap.size + 1) ≠ some D := by simp; omega
    have hDU : some (w.heap.size + 1 + 1) ≠ some D := by simp; omega
    have hDE : some (w.heap.size + 1 + 1 + 1) ≠ some D := by simp; omega
    have c1 := (bL1.kept (grownBy_putObj' W D (.deferred none)) hDL).cell
    have c2 := (bU1.kept (grownBy_putObj' W D (.deferred none)) hDU).cell
    have c3 := (bE1.kept (grownBy_putObj' W D (.deferred none)) hDE).cell
    refine ⟨.tuple #[v, _, _], ?_, v, rfl, ownsRow_putObj hfin _ hK rfl, hB1.trans (belowK_b (w := w) (Nat.le_refl _) W D _ _ (by omega) hK rfl rfl)⟩
    simp [results, Try.f14, go_sem, c1, c2, c3]

end Go.Proofs.Ytehclfpjccfmeaa.F3
