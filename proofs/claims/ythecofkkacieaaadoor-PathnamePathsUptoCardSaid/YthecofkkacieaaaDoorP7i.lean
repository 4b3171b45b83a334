/-
  Layer 7, walks: what any right program answers; names and clashes.
-/
import Derived.Test.YthecofkkacieaaaDoorP7f
import Derived.Test.YthecofkkacieaaaDoorP7h
import Derived.Test.YthecofkkacieaaaDoorS5y
namespace Go.Proofs.YthecofkkacieaaaDoor.P7
open Go.RowKit Go.PlainAid M7
open S5 (Env ts)
set_option linter.unusedVariables false

theorem ts_get {l : List (List UInt8)} {k : Nat} (h : k < (ts l).length) : (ts l)[k] = .string (bs (l[k]'(by rw [S5.ts_len] at h; exact h))) := by
  simp [ts]

set_option maxRecDepth 100000 in
set_option maxHeartbeats 400000 in
theorem sameTexts_any (A B : Option Addr) (n c d : Nat) (l : List (List UInt8)) (w : World) (ha : Rd w A (ts l)) (hb : Rd w B (ts l)) (hn : l.length = n) (hle : n ≤ 1099511627776) :
    Calls Tryd.prog 16 #[.slice A n c, .slice B n d] w fun e w' => e = .returned (.bool true) ∧ Below w.heap.size w w' := by
  subst hn
  have HA := Lib.hid ha
  have HB := Lib.hid hb
  clear ha hb
  go_enter Tryd.func16, Tryd.ntmps16
  go_wp2
  go_loopw [5] (fun i wr => ∃ k : Nat, k ≤ l.length ∧ i = .int .i64 (k : Int) ∧ Below w.heap.size w wr) (fun i _ => l.length - (intOf i).toNat)
  case atStart => exact ⟨0, by omega, rfl, Below.refl _ _⟩
  case round =>
    obtain ⟨k, hk, rfl, hbw⟩ := hrel
    by_cases hlt : k < l.length
    · have h1 := HA.out.keep hbw
      have h2 := HB.out.keep hbw
      obtain ⟨b, off, rfl, hbl, hc⟩ := h1.get (k := k) (by rw [S5.ts_len]; exact hlt)
      obtain ⟨b', off', rfl, hbl', hc'⟩ := h2.get (k := k) (by rw [S5.ts_len]; exact hlt)
      rw [ts_get] at hc hc'
      clear h1 h2
      go_wp2
      go_quiet (fail)
      go_wp2
      go_roundw
      case rel => exact ⟨k + 1, by omega, by go_num, below_drewN hbw nq⟩
      case measure => simp [intOf]; omega
    · obtain rfl : k = l.length := by omega
      go_wp2
      go_ret
      exact ⟨rfl, hbw⟩

theorem Rd.two (w : World) (x y : Value) (t : TypeId) : Rd (w.alloc (.cells #[x, y] t)) (some ⟨w.heap.size, 0, none⟩) [x, y] := by
  refine .inr ⟨w.heap.size, 0, rfl, by simp, fun j hj => ?_⟩
  have := cell_two_new w x y t j [x, y][j] (List.getElem?_eq_getElem hj)
  rw [add_none] at this
  exact this

theorem aw_split1 : splitP [47, 97, 47, 98, 126, 51, 46, 49, 46, 48] = ([[97], [98, 126, 51, 46, 49, 46, 48]], 0) := by decide +kernel
theorem aw_split2 : splitP [47, 97, 47] = ([], 70) := by decide +kernel
theorem aw_clash : clashR [98] 3 1 0 = ([98, 126, 51, 46, 49, 46, 48], 0) := by
  rw [clashR_ok (by decide +kernel) (by decide +kernel), S5.text_good]
  rfl
theorem aw_join (w : World) : Calls Tryd.prog 17 #[.slice none 0 0] w fun e w' => e = .returned (.string ⟨#[47]⟩) ∧ Below w.heap.size w w' :=
  join_any [] w (.inl rfl) rfl (Nat.le_refl _) (by omega) (by decide)
theorem aw_s1 (w : World) (he : Env w) : Calls Tryd.prog 14 #[.string ⟨#[47, 97, 47, 98, 126, 51, 46, 49, 46, 48]⟩] w (SplitE [[97], [98, 126, 51, 46, 49, 46, 48]] 0 w) :=
  split_any [47, 97, 47, 98, 126, 51, 46, 49, 46, 48] (by decide) w he aw_split1
theorem aw_s2 (w : World) (he : Env w) : Calls Tryd.prog 14 #[.string ⟨#[47, 97, 47]⟩] w (SplitE [] 70 w) :=
  split_any [47, 97, 47] (by decide) w he aw_split2
theorem aw_c (w : World) (he : Env w) : Calls Tryd.prog 7 #[.string ⟨#[98]⟩, .agg #[.int .i64 3, .int .i64 1, .int .i64 0]] w fun e w' => e = .returned (.tuple #[.string ⟨#[98, 126, 51, 46, 49, 46, 48]⟩, .int .i64 0]) ∧ Below w.heap.size w w' :=
  clash_any [98] 3 1 0 w he aw_clash

set_option maxRecDepth 100000 in
set_option maxHeartbeats 2000000 in
theorem awake_any (w : World) (he : Env w) : Calls Tryd.prog 9 #[] w fun e w' => e = .returned (.bool true) ∧ Below w.heap.size w w' := by
  have HP : Hid (ts [[97], [98, 126, 51, 46, 49, 46, 48]] = [.string ⟨#[97]⟩, .string ⟨#[98, 126, 51, 46, 49, 46, 48]⟩]) := by show _ = _; rfl
  have E0 := Lib.hid he
  clear he
  go_enter Tryd.func9, Tryd.ntmps9
  go_wp2_with fail
  refine (aw_s1 _ E0.out).mono ?_
  rintro e w1 ⟨A, c, rfl, hr1, hb1, hc⟩
  have R1 := Lib.hid hr1
  have E1 := Lib.hid (E0.out.keep hb1)
  clear hr1 hc
  go_wp2_with fail
  refine (aw_c _ E1.out).mono ?_
  rintro e w2 ⟨rfl, hb2⟩
  have R2 := Lib.hid (R1.out.keep hb2)
  have E2 := Lib.hid (E1.out.keep hb2)
  have hb := chain hb1 hb2
  clear hb1 hb2
  go_wp2_with fail
  refine (aw_s2 _ E2.out).mono ?_
  rintro e w3 ⟨B, d, rfl, hr3, hb3, hd⟩
  have R3 := Lib.hid (R2.out.keep hb3)
  have hb := chain hb hb3
  clear hr3 hb3 hd
  go_wp2_with fail
  have hba : Below w3.heap.size w3 (w3.alloc (.cells #[.string ⟨#[97]⟩, .string ⟨#[98, 126, 51, 46, 49, 46, 48]⟩] 9)) := (Below.refl _ _).alloc (Nat.le_refl _) _
  have N1 := Rd.two w3 (.string ⟨#[97]⟩) (.string ⟨#[98, 126, 51, 46, 49, 46, 48]⟩) 9
  rw [← HP.out] at N1
  refine (sameTexts_any _ _ _ _ _ [[97], [98, 126, 51, 46, 49, 46, 48]] _ (R3.out.keep hba) N1 rfl (by decide)).mono ?_
  rintro e w4 ⟨rfl, hb4⟩
  have hb := chain (chain hb hba) hb4
  clear hba N1 hb4
  go_wp2_with fail
  refine (aw_join _).mono ?_
  rintro e w5 ⟨rfl, hb5⟩
  have hb := chain hb hb5
  clear hb5
  go_wp2
  go_ret
  exact ⟨rfl, hb⟩

theorem seen_as {l : List UInt8} {b : Bool} (h : seenB l = b) (hz : l.length ≤ 140737488351232) {w : World} (he : Env w) :
    Calls Tryd.prog 12 #[.string (bs l)] w fun e w' => e = .returned (.bool b) ∧ Below w.heap.size w w' := by
  have := seen_any l hz w he
  rw [h] at this
  exact this
theorem refSeen_is {l : List UInt8} {b : Bool} (h : seenB l = b) (hz : l.length ≤ 140737488351232) (w : World) :
    Calls Tryd.prog 13 #[.string (bs l)] w fun e w' => e = .returned (.bool b) ∧ Below w.heap.size w w' := by
  have := refSeen_any l hz w
  rw [h] at this
  exact this

set_option maxRecDepth 100000 in
set_option maxHeartbeats 2000000 in
theorem lawNames (w : World) (he : Env w) (s : ByteArray) (hz : s.size ≤ 140737488351232) (t r i : Int) :
    Calls Tryd.prog 3 #[.string s, .agg #[.int .i64 t, .int .i64 r, .int .i64 i]] w fun e w' => e = .returned (.bool true) ∧ Below w.heap.size w w' := by
  obtain ⟨l, rfl⟩ : ∃ l, s = bs l := ⟨s.data.toList, (bs_of s).symm⟩
  rw [bs_size] at hz
  obtain ⟨m, x, hc⟩ : ∃ m x, clashR l t r i = (m, x) := ⟨_, _, rfl⟩
  obtain ⟨b1, h1⟩ : ∃ b, nameB l = b := ⟨_, rfl⟩
  obtain ⟨b2, h2⟩ : ∃ b, seenB l = b := ⟨_, rfl⟩
  have HC := Lib.hid hc
  have H1 := Lib.hid h1
  have H2 := Lib.hid h2
  have E0 := Lib.hid (he.keep (S5.new1 w (.cells #[.int .i64 t, .int .i64 r, .int .i64 i] 25)))
  have B0 := Lib.hid (S5.new1 w (.cells #[.int .i64 t, .int .i64 r, .int .i64 i] 25))
  have X0 : Hid (S5.Trio (w.alloc (.cells #[.int .i64 t, .int .i64 r, .int .i64 i] 25)) w.heap.size 25 t r i) := heap_alloc_new w _
  clear hc h1 h2 he
  go_enter Tryd.func3, Tryd.ntmps3
  go_wp2_with fail
  refine (clash_any l t r i _ E0.out HC.out).mono ?_
  rintro e w1 ⟨rfl, hb1⟩
  have E1 := Lib.hid (E0.out.keep hb1)
  have B1 := Lib.hid (chain B0.out hb1)
  obtain ⟨x0, x1, x2⟩ := (X0.out.keep hb1).cells
  clear hb1 E0 B0
  go_wp2_with fail
  refine (refClash_any l t r i _ E1.out HC.out).mono ?_
  rintro e w2 ⟨rfl, hb2⟩
  have E2 := Lib.hid (E1.out.keep hb2)
  have B2 := Lib.hid (chain B1.out hb2)
  clear hb2 E1 B1 x0 x1 x2 X0
  go_wp2_with fail
  refine (awake_any _ E2.out).mono ?_
  rintro e w3 ⟨rfl, hb3⟩
  have E3 := Lib.hid (E2.out.keep hb3)
  have B3 := Lib.hid (chain B2.out hb3)
  clear hb3 E2 B2
  go_wp2_with fail
  refine (name_as H1.out _).mono ?_
  rintro e w4 ⟨rfl, hb4⟩
  have E4 := Lib.hid (E3.out.keep hb4)
  have B4 := Lib.hid (chain B3.out hb4)
  clear hb4 E3 B3
  go_wp2_with fail
  refine (refName_as H1.out _).mono ?_
  rintro e w5 ⟨rfl, hb5⟩
  have E5 := Lib.hid (E4.out.keep hb5)
  have B5 := Lib.hid (chain B4.out hb5)
  clear hb5 E4 B4
  go_wp2_with fail
  refine (seen_as H2.out hz E5.out).mono ?_
  rintro e w6 ⟨rfl, hb6⟩
  have B6 := Lib.hid (chain B5.out hb6)
  clear hb6 E5 B5
  go_wp2_with fail
  refine (refSeen_is H2.out hz _).mono ?_
  rintro e w7 ⟨rfl, hb7⟩
  have B7 := Lib.hid (chain B6.out hb7)
  clear hb7 B6
  go_wp2
  go_ret
  exact ⟨rfl, B7.out⟩

theorem refRightId_as {t r i : Int} {b : Bool} (h : M5.rightId t r i = b) (w : World) :
    Calls Tryd.prog 19 #[.agg #[.int .i64 t, .int .i64 r, .int .i64 i]] w fun e w' => e = .returned (.bool b) ∧ Below w.heap.size w w' := by
  have := S5.refRightId_any t r i w
  rw [h] at this
  exact this

/-- Two boxed ids, and what is read of the variables, while calls are made. -/
def Duo (w : World) (b1 b2 : Nat) (t r i t' r' i' : Int) (a : World) : Prop :=
  S5.Trio a b1 25 t r i ∧ S5.Trio a b2 25 t' r' i' ∧ Env a ∧ Below w.heap.size w a
def Cells6 (b1 b2 : Nat) (t r i t' r' i' : Int) (a : World) : Prop :=
  a.cell? ⟨b1, 0, none⟩ = some (.int .i64 t) ∧ a.cell? ⟨b1, 1, none⟩ = some (.int .i64 r) ∧ a.cell? ⟨b1, 2, none⟩ = some (.int .i64 i) ∧ a.cell? ⟨b2, 0, none⟩ = some (.int .i64 t') ∧ a.cell? ⟨b2, 1, none⟩ = some (.int .i64 r') ∧ a.cell? ⟨b2, 2, none⟩ = some (.int .i64 i')
theorem Duo.cells {w : World} {b1 b2 : Nat} {t r i t' r' i' : Int} {a : World} (h : Duo w b1 b2 t r i t' r' i' a) : Cells6 b1 b2 t r i t' r' i' a :=
  ⟨h.1.cells.1, h.1.cells.2.1, h.1.cells.2.2, h.2.1.cells.1, h.2.1.cells.2.1, h.2.1.cells.2.2⟩
theorem Duo.keep {w : World} {b1 b2 : Nat} {t r i t' r' i' : Int} {a a' : World} (h : Duo w b1 b2 t r i t' r' i' a) (hb : Below a.heap.size a a') : Duo w b1 b2 t r i t' r' i' a' :=
  ⟨h.1.keep hb, h.2.1.keep hb, h.2.2.1.keep hb, chain h.2.2.2 hb⟩
theorem Duo.call {w : World} {b1 b2 : Nat} {t r i t' r' i' : Int} {a : World} {f : FuncId} {args : Array Value} {R : Ending} (hc : Calls Tryd.prog f args a fun e w' => e = R ∧ Below a.heap.size a w') (h : Duo w b1 b2 t r i t' r' i' a) :
    Calls Tryd.prog f args a fun e w' => e = R ∧ Cells6 b1 b2 t r i t' r' i' w' ∧ Hid (Duo w b1 b2 t r i t' r' i' w') :=
  hc.mono fun e w' ⟨he, hb⟩ => ⟨he, (h.keep hb).cells, h.keep hb⟩

set_option maxRecDepth 100000 in
set_option maxHeartbeats 2000000 in
theorem clashes_not (w : World) (he : Env w) (s u : List UInt8) (t r i t' r' i' : Int) {l m : List UInt8} {x y : Int} (hc : clashR s t r i = (l, x)) (hd : clashR u t' r' i' = (m, y)) (hx : x ≠ 0) :
    Calls Tryd.prog 6 #[.string (bs s), .string (bs u), .agg #[.int .i64 t, .int .i64 r, .int .i64 i], .agg #[.int .i64 t', .int .i64 r', .int .i64 i']] w fun e w' => e = .returned (.bool true) ∧ Below w.heap.size w w' := by
  have hb0 : Below w.heap.size w ((w.alloc (.cells #[.int .i64 t, .int .i64 r, .int .i64 i] 25)).alloc (.cells #[.int .i64 t', .int .i64 r', .int .i64 i'] 25)) := new2 w _ _
  have D0 : Hid (Duo w w.heap.size (w.heap.size + 1) t r i t' r' i' ((w.alloc (.cells #[.int .i64 t, .int .i64 r, .int .i64 i] 25)).alloc (.cells #[.int .i64 t', .int .i64 r', .int .i64 i'] 25))) := by
    refine ⟨?_, ?_, he.keep hb0, hb0⟩
    · have h1 : S5.Trio (w.alloc (.cells #[.int .i64 t, .int .i64 r, .int .i64 i] 25)) w.heap.size 25 t r i := heap_alloc_new w _
      exact h1.keep ((Below.refl _ _).alloc (Nat.le_refl _) _)
    · have := heap_alloc_new (w.alloc (.cells #[.int .i64 t, .int .i64 r, .int .i64 i] 25)) (.cells #[.int .i64 t', .int .i64 r', .int .i64 i'] 25)
      rw [World.size_alloc] at this
      exact this
  have HC := Lib.hid hc
  have HD := Lib.hid hd
  obtain ⟨b1, h1⟩ : ∃ b, nameB s = b := ⟨_, rfl⟩
  obtain ⟨b2, h2⟩ : ∃ b, M5.rightId t r i = b := ⟨_, rfl⟩
  have hand : (b1 && b2) = false := by
    rcases clash_parts hc with ⟨q1, _, _⟩ | ⟨_, q2, _, _⟩ | ⟨_, _, _, q3⟩
    · rw [← h1, q1]; rfl
    · rw [← h2, q2, Bool.and_false]
    · exact absurd q3 hx
  have H1 := Lib.hid h1
  have H2 := Lib.hid h2
  have hxq : (x == (0 : Int)) = false := by simpa using hx
  have hxn : (x != (0 : Int)) = true := by simpa using hx
  clear hc hd he h1 h2 hb0
  go_enter Tryd.func6, Tryd.ntmps6
  go_wp2_with fail
  refine (Duo.call (awake_any _ D0.out.2.2.1) D0.out).mono ?_
  rintro e w1 ⟨rfl, ⟨c1, c2, c3, c4, c5, c6⟩, D1⟩
  clear D0
  go_wp2_with fail
  refine (Duo.call (clash_any s t r i _ D1.out.2.2.1 HC.out) D1.out).mono ?_
  clear c1 c2 c3 c4 c5 c6
  rintro e w2 ⟨rfl, ⟨c1, c2, c3, c4, c5, c6⟩, D2⟩
  clear D1
  go_wp2_with fail
  refine (Duo.call (clash_any u t' r' i' _ D2.out.2.2.1 HD.out) D2.out).mono ?_
  clear c1 c2 c3 c4 c5 c6
  rintro e w3 ⟨rfl, ⟨c1, c2, c3, c4, c5, c6⟩, D3⟩
  clear D2
  go_wp2_with fail
  refine (Duo.call (name_as H1.out _) D3.out).mono ?_
  clear c1 c2 c3 c4 c5 c6
  rintro e w4 ⟨rfl, ⟨c1, c2, c3, c4, c5, c6⟩, D4⟩
  clear D3
  cases b1
  · go_wp2
    go_ret
    exact ⟨rfl, D4.out.2.2.2⟩
  · go_wp2_with fail
    refine (Duo.call (refRightId_as H2.out _) D4.out).mono ?_
    clear c1 c2 c3 c4 c5 c6
    rintro e w5 ⟨rfl, ⟨c1, c2, c3, c4, c5, c6⟩, D5⟩
    clear D4
    obtain rfl : b2 = false := by simpa using hand
    go_wp2
    go_ret
    exact ⟨rfl, D5.out.2.2.2⟩

set_option maxRecDepth 100000 in
set_option maxHeartbeats 2000000 in
theorem clashes_ok (w : World) (he : Env w) (s u : List UInt8) (t r i t' r' i' : Int) {l m : List UInt8} {x y : Int} (hc : clashR s t r i = (l, x)) (hd : clashR u t' r' i' = (m, y)) (hx : x = 0) (E : Bool) (hE : E = (decide (s = u) && (t == t' && (r == r' && i == i')))) :
    Calls Tryd.prog 6 #[.string (bs s), .string (bs u), .agg #[.int .i64 t, .int .i64 r, .int .i64 i], .agg #[.int .i64 t', .int .i64 r', .int .i64 i']] w fun e w' => e = .returned (.bool true) ∧ Below w.heap.size w w' := by
  have hb0 : Below w.heap.size w ((w.alloc (.cells #[.int .i64 t, .int .i64 r, .int .i64 i] 25)).alloc (.cells #[.int .i64 t', .int .i64 r', .int .i64 i'] 25)) := new2 w _ _
  have D0 : Hid (Duo w w.heap.size (w.heap.size + 1) t r i t' r' i' ((w.alloc (.cells #[.int .i64 t, .int .i64 r, .int .i64 i] 25)).alloc (.cells #[.int .i64 t', .int .i64 r', .int .i64 i'] 25))) := by
    refine ⟨?_, ?_, he.keep hb0, hb0⟩
    · have h1 : S5.Trio (w.alloc (.cells #[.int .i64 t, .int .i64 r, .int .i64 i] 25)) w.heap.size 25 t r i := heap_alloc_new w _
      exact h1.keep ((Below.refl _ _).alloc (Nat.le_refl _) _)
    · have := heap_alloc_new (w.alloc (.cells #[.int .i64 t, .int .i64 r, .int .i64 i] 25)) (.cells #[.int .i64 t', .int .i64 r', .int .i64 i'] 25)
      rw [World.size_alloc] at this
      exact this
  subst hx
  obtain ⟨hn, hr, hl, _⟩ : nameB s = true ∧ M5.rightId t r i = true ∧ l = s ++ 126 :: M5.textR t r i ∧ (0 : Int) = 0 := by
    rcases clash_parts hc with ⟨_, _, q3⟩ | ⟨_, _, _, q3⟩ | h
    · exact absurd q3 (by decide)
    · exact absurd q3 (by decide)
    · exact h
  obtain ⟨hse, hna⟩ := clash_seen hn hr
  rw [← hl] at hse hna
  have hzl : l.length ≤ 140737488351232 := by have := (seen_parts hse).1; omega
  have heq : y = 0 → ((bs l).toList == (bs m).toList) = E := by
    intro hy
    rcases clash_parts hd with ⟨_, _, q3⟩ | ⟨_, _, _, q3⟩ | ⟨hnu, hru, hm, _⟩
    · rw [hy] at q3; exact absurd q3 (by decide)
    · rw [hy] at q3; exact absurd q3 (by decide)
    · rw [hE, bs_toList, bs_toList, Bool.eq_iff_iff, beq_iff_eq, hl, hm, clash_eq hn hnu hr hru]
      simp
  have HC := Lib.hid hc
  have HD := Lib.hid hd
  have HN := Lib.hid hn
  have HR := Lib.hid hr
  have HSE := Lib.hid hse
  have HNA := Lib.hid hna
  have HEQ := Lib.hid heq
  have HEE := Lib.hid hE
  clear hc hd he hn hr hl hse hna heq hE hb0
  go_enter Tryd.func6, Tryd.ntmps6
  go_wp2_with fail
  refine (Duo.call (awake_any _ D0.out.2.2.1) D0.out).mono ?_
  rintro e w1 ⟨rfl, ⟨c1, c2, c3, c4, c5, c6⟩, D1⟩
  clear D0
  go_wp2_with fail
  refine (Duo.call (clash_any s t r i _ D1.out.2.2.1 HC.out) D1.out).mono ?_
  clear c1 c2 c3 c4 c5 c6
  rintro e w2 ⟨rfl, ⟨c1, c2, c3, c4, c5, c6⟩, D2⟩
  clear D1
  go_wp2_with fail
  refine (Duo.call (clash_any u t' r' i' _ D2.out.2.2.1 HD.out) D2.out).mono ?_
  clear c1 c2 c3 c4 c5 c6
  rintro e w3 ⟨rfl, ⟨c1, c2, c3, c4, c5, c6⟩, D3⟩
  clear D2
  go_wp2_with fail
  refine (Duo.call (name_as HNA.out _) D3.out).mono ?_
  clear c1 c2 c3 c4 c5 c6
  rintro e w4 ⟨rfl, ⟨c1, c2, c3, c4, c5, c6⟩, D4⟩
  clear D3
  go_wp2_with fail
  refine (Duo.call (seen_as HSE.out hzl D4.out.2.2.1) D4.out).mono ?_
  clear c1 c2 c3 c4 c5 c6
  rintro e w5 ⟨rfl, ⟨c1, c2, c3, c4, c5, c6⟩, D5⟩
  clear D4
  go_wp2_with fail
  refine (Duo.call (name_as HN.out _) D5.out).mono ?_
  clear c1 c2 c3 c4 c5 c6
  rintro e w6 ⟨rfl, ⟨c1, c2, c3, c4, c5, c6⟩, D6⟩
  clear D5
  go_wp2_with fail
  refine (Duo.call (name_as HN.out _) D6.out).mono ?_
  clear c1 c2 c3 c4 c5 c6
  rintro e w7 ⟨rfl, ⟨c1, c2, c3, c4, c5, c6⟩, D7⟩
  clear D6
  go_wp2_with fail
  refine (Duo.call (refRightId_as HR.out _) D7.out).mono ?_
  clear c1 c2 c3 c4 c5 c6
  rintro e w8 ⟨rfl, ⟨c1, c2, c3, c4, c5, c6⟩, D8⟩
  clear D7
  by_cases hy : y = 0
  · have hyn : (y != (0 : Int)) = false := by simpa using hy
    have hq := HEQ.out hy
    by_cases hs : s = u
    · have hsq : ((bs s).toList == (bs u).toList) = true := by rw [hs]; simp
      go_wp2
      all_goals have hEE := HEE.out
      all_goals clear HEE HEQ hq c1 c2 c3 c4 c5 c6
      all_goals go_ret
      all_goals refine ⟨?_, D8.out.2.2.2⟩
      all_goals first
        | (rw [show E = true by rw [hEE]; simp [*]]; rfl)
        | (rw [show E = false by rw [hEE]; simp [*]]; rfl)
    · have hsq : ((bs s).toList == (bs u).toList) = false := by
        rw [bs_toList, bs_toList, beq_eq_false_iff_ne]; exact hs
      go_wp2
      all_goals have hEE := HEE.out
      all_goals clear HEE HEQ hq c1 c2 c3 c4 c5 c6
      all_goals go_ret
      all_goals refine ⟨?_, D8.out.2.2.2⟩
      all_goals first
        | (rw [show E = true by rw [hEE]; simp [*]]; rfl)
        | (rw [show E = false by rw [hEE]; simp [*]]; rfl)
  · have hyn : (y != (0 : Int)) = true := by simpa using hy
    go_wp2
    go_ret
    exact ⟨rfl, D8.out.2.2.2⟩

theorem lawClashes (w : World) (he : Env w) (s : ByteArray) (hz : s.size ≤ 140737488351232) (u : ByteArray) (hzu : u.size ≤ 140737488351232) (t r i t' r' i' : Int) :
    Calls Tryd.prog 6 #[.string s, .string u, .agg #[.int .i64 t, .int .i64 r, .int .i64 i], .agg #[.int .i64 t', .int .i64 r', .int .i64 i']] w fun e w' => e = .returned (.bool true) ∧ Below w.heap.size w w' := by
  obtain ⟨l, rfl⟩ : ∃ l, s = bs l := ⟨s.data.toList, (bs_of s).symm⟩
  obtain ⟨m, rfl⟩ : ∃ m, u = bs m := ⟨u.data.toList, (bs_of u).symm⟩
  obtain ⟨a, x, hc⟩ : ∃ a x, clashR l t r i = (a, x) := ⟨_, _, rfl⟩
  obtain ⟨b, y, hd⟩ : ∃ b y, clashR m t' r' i' = (b, y) := ⟨_, _, rfl⟩
  by_cases hx : x = 0
  · exact clashes_ok w he l m t r i t' r' i' hc hd hx _ rfl
  · exact clashes_not w he l m t r i t' r' i' hc hd hx

end Go.Proofs.YthecofkkacieaaaDoor.P7
