/-
  Layer 3, walks: what the statements call besides.
-/
import Derived.Test.YtehclfpjccfmeaaF3d
namespace Go.Proofs.Ytehclfpjccfmeaa.F3
open Go.RowKit Go.PlainAid V1 C2 M2 M3
set_option linter.unusedVariables false

/-- Texts, as a row holds them. -/
def strs (ls : List (List UInt8)) : List Value := ls.map fun l => Value.string (bs l)
theorem strs_len (ls : List (List UInt8)) : (strs ls).length = ls.length := by simp [strs]
theorem strs_get {ls : List (List UInt8)} {k : Nat} (h : k < (strs ls).length) : (strs ls)[k] = .string (bs (ls[k]'(by simpa [strs] using h))) := by simp [strs]
theorem strs_of (ss : List ByteArray) : strs (ss.map fun s => s.data.toList) = ss.map Value.string := by
  unfold strs; rw [List.map_map]; rfl

set_option maxRecDepth 100000 in
set_option maxHeartbeats 400000 in
theorem tb_any (odd : Bool) (w : World) :
    Calls Try.prog 9 #[.bool odd] w fun e w' => ∃ A c, e = .returned (.slice A (tb odd).length c) ∧ Rd w' A (u32s (tb odd)) ∧ Below w.heap.size w w' := by
  cases odd
  · rw [tb_len]
    simp only [Bool.false_eq_true, if_false]
    go_enter Try.func9, Try.ntmps9
    go_wp2_with fail
    refine (refTable_any _).mono ?_
    rintro e w1 ⟨A, c, rfl, hr, hb⟩
    go_wp2
    go_ret
    exact ⟨A, c, rfl, hr, hb⟩
  · rw [tb_len]
    simp only [if_true]
    go_enter Try.func9, Try.ntmps9
    go_wp2_with fail
    refine (refTable_own _).mono ?_
    rintro e w1 ⟨v, rfl, ho, hb⟩
    obtain ⟨g, cap, rfl⟩ := ownsRow_succ ho
    have hcap : 256 ≤ cap := by
      rcases ho.2 with ⟨h, _⟩ | ⟨_, _, _, h, _, _, h2, _⟩
      · cases h
      · cases h; exact h2
    have hr : Rd w1 (some ⟨g, 0, none⟩) (u32s (tb true)) := by
      obtain ⟨A, c, hA, hr, _⟩ := Rd.of_own ho
      cases hA
      rcases hr with h | ⟨b, off, e1, e2, e3⟩
      · have := congrArg List.length h; rw [u32s_len, tab_len] at this; simp at this
      · refine .inr ⟨b, off, e1, e2, fun j hj => ?_⟩
        rw [u32s_len, tb_len] at hj
        rw [e3 j (by rw [u32s_len, tab_len]; simp at hj; omega)]
        simp [u32s, tb]
    have HR := Lib.hid hr
    clear hr ho
    go_wp2
    go_ret
    exact ⟨_, _, rfl, HR.out, hb⟩

set_option maxRecDepth 100000 in
set_option maxHeartbeats 1000000 in
theorem split_odd (A : Option Addr) (n c : Nat) (t : List Nat) (s : ByteArray) (w : World) (hr : Rd w A (u32s t)) (hl : t.length = n) (h256 : n ≠ 256) (ht : ∀ x ∈ t, x < 4294967296) :
    Calls Try.prog 14 #[.slice A n c, .string s] w fun e w' => e = .returned (.tuple #[.slice none 0 0, .int .i64 0, .int .i64 1]) ∧ Below w.heap.size w w' := by
  have HR := Lib.hid hr
  have HL := Lib.hid hl
  have HT := Lib.hid ht
  clear hr hl ht
  refine (callsIn_wide (n := 9)).1 ?_
  refine callsIn_of_wp_marks Try.func14 rfl trivial ?_ rfl
  simp only [Try.ntmps14, List.size_toArray, List.length_cons, List.length_nil, Nat.reduceAdd, Nat.reduceSub, Array.replicate_succ, Array.replicate_zero, List.push_toArray, List.append_toArray, List.nil_append, List.cons_append]
  have hb4 : Below w.heap.size w ((((w.alloc (.cells #[.string s] 9)).alloc (.cells #[.slice none 0 0] 31)).alloc (.cells #[.int .i64 0] 3)).alloc (.cells #[.int .i64 0] 25)) :=
    ((((Below.refl _ w).alloc (Nat.le_refl _) _).alloc (by simp) _).alloc (by simp; omega) _).alloc (by simp; omega) _
  have HR4 := Lib.hid (HR.out.keep hb4)
  have hmo : Try.prog.follows .mixedOrders = true := by kernel_rfl
  gi_wp2_with (fail)
  refine ⟨trivial, (callsIn_wide.2 (terr_odd A n c t _ HR4.out HL.out h256 HT.out)).mono ?_⟩
  rintro e w1 ⟨rfl, rfl⟩
  gi_wp2
  gi_region_with_o (fail)
  all_goals gi_wp2
  all_goals refine ⟨.tuple #[.slice none 0 0, .int .i64 0, .int .i64 1], ?_, rfl, below_drew0 (((((Below.refl _ w).alloc (Nat.le_refl _) _).alloc (by simp) _).alloc (by simp; omega) _).alloc (by simp; omega) _)⟩
  all_goals simp [results, Try.f14, go_sem]

/-- WHAT THE LOOP OF THE DOCUMENT'S Split KEEPS. -/
def RSRel (s : ByteArray) (w : World) (v r : Value) (wr : World) : Prop :=
  ∃ (ls : List (List UInt8)) (L : List UInt8), r = .string (bs L) ∧ L.length ≤ s.size ∧ ls.length + L.length ≤ s.size ∧ split s.data.toList = (ls ++ (split L).1, (split L).2.1, (split L).2.2) ∧ wr.ownsRow w.heap.size 9 1 v ls.length (strs ls) ∧ Below w.heap.size w wr

set_option maxRecDepth 100000 in
set_option maxHeartbeats 1000000 in
theorem refSplit_any (A : Option Addr) (c : Nat) (s : ByteArray) (hs : s.size ≤ 1099511627776) (w : World) (hr : Rd w A (u32s tab)) :
    Calls Try.prog 15 #[.slice A 256 c, .string s] w fun e w' => ∃ v, e = .returned (.tuple #[v, .int .i64 ((s.size : Int) - ((split s.data.toList).2.1.length : Int)), .int .i64 (split s.data.toList).2.2]) ∧
      w'.ownsRow w.heap.size 9 1 v (split s.data.toList).1.length (strs (split s.data.toList).1) ∧ Below w.heap.size w w' := by
  obtain ⟨i0, hi0, hz0, hz1, hz2⟩ := info_parts info_str
  have HR := Lib.hid hr
  have h0 : RSRel s w (.slice none 0 0) (.string s) w := ⟨[], s.data.toList, rfl, Nat.le_refl _, by rw [show s.size = s.data.toList.length from rfl]; simp, rfl, World.ownsRow_nil _ _ _ _, Below.refl _ _⟩
  have H0 := Lib.hid h0
  clear hr h0
  go_enter Try.func15, Try.ntmps15
  go_wp2
  go_loopw [7, 8] (fun v r wr => RSRel s w v r wr) (fun _ r _ => strLen r)
  case atStart => exact H0.out
  case round =>
    obtain ⟨ls, L, rfl, hL, hlL, hsp, ho, hb⟩ := hrel
    clear H0
    have hB : w.heap.size ≤ wr.heap.size := hb.size
    have HRW := Lib.hid (HR.out.keep hb)
    have HLs : (bs L).size ≤ 9223372036854775807 := by rw [bs_size]; omega
    have hbs : (bs L).size = L.length := rfl
    have HSP := Lib.hid hsp
    clear hsp
    go_wp2_with fail
    refine (refNext_any A c (bs L) wr HRW.out HLs).mono ?_
    rw [bs_list]
    rintro e w1 ⟨rfl, hb1⟩
    have hb2 : Below w.heap.size w w1 := hb.trans (hb1.mono hB)
    have hB1 : w.heap.size ≤ w1.heap.size := hb2.size
    have ho1 := own_keep ho hb1
    clear hb hb1 ho
    have hw : IntKind.i64.wrap ((s.size : Int) - (L.length : Int)) = (s.size : Int) - (L.length : Int) := IntWalk.i64_in _ (by omega)
    by_cases h0 : L = []
    · subst h0
      have hn := next_nil
      rw [hn]
      have h1 := HSP.out
      rw [split_nil, List.append_nil] at h1
      have HSP := Lib.hid h1
      clear h1 hn
      go_wp2
      go_ret3
      rw [HSP.out]
      exact ⟨_, by simp, ho1, hb2⟩
    by_cases h2 : (next L).2.2 = 0
    · have hlt := next_lt h2
      have hsp := HSP.out
      rw [split_on h0 h2] at hsp
      rw [h2]
      generalize (next L).1 = x at hsp
      generalize (next L).2.1 = r at hsp hlt
      have HSP := Lib.hid hsp
      clear hsp h2
      go_wp2_with (at_builtin; refine wpList_append_own _ rfl (.tmp 39) (.tmp 41) 31 rfl w.heap.size 9 i0 (.string ⟨#[]⟩) 1 16 Try.underlying31 hi0 hz0 hz1 hz2 rfl (by decide) _ _ _ rfl (ho1.alloc _) ⟨w1.heap.size, 0, none⟩ 1 1 [.string (bs x)] rfl rfl (cell_one_new _ _ _) ?c2 ?c3 ?c4 ?c5 ?_)
      case c2 => simp [Value.oneCell']
      case c3 => unfold maxLen; omega
      case c4 => omega
      case c5 => first | omega | (simp; omega)
      intro v1 w2 hown1 hg1 _
      go_wp2
      go_roundw
      case rel =>
        refine ⟨ls ++ [x], r, rfl, by omega, by simp; omega, by rw [HSP.out]; simp, ?_, (hb2.alloc hB1 _).grown hg1 (by simp; omega) (fun q hq => (ho1.lt q hq).1)⟩
        rw [show (ls ++ [x]).length = ls.length + 1 by simp, show strs (ls ++ [x]) = strs ls ++ [.string (bs x)] by simp [strs]]
        exact hown1
      case measure => simp [strLen, bs_size]; omega
    · have hsp := HSP.out
      rw [split_bad h0 h2, List.append_nil] at hsp
      rw [next_err h2]
      generalize (next L).2.2 = x at hsp h2
      have HSP := Lib.hid hsp
      clear hsp
      have hd0 : 0 < L.length := by cases L <;> simp_all
      have hd : ((L.length : Int) == 0) = false := beq_eq_false_iff_ne.2 (by omega)
      have hne : (x != (0 : Int)) = true := by rw [bne_iff_ne]; omega
      by_cases h10 : x = 10
      · subst h10
        go_wp2
        go_ret3
        rw [HSP.out]
        exact ⟨_, by rfl, ho1, hb2⟩
      · have hn10 : (x == (10 : Int)) = false := beq_eq_false_iff_ne.2 h10
        go_wp2
        go_ret3
        rw [HSP.out]
        exact ⟨_, by rfl, ho1, hb2⟩

theorem refSplit_odd (A : Option Addr) (n c : Nat) (t : List Nat) (s : ByteArray) (w : World) (hr : Rd w A (u32s t)) (hl : t.length = n) (h256 : n ≠ 256) (ht : ∀ x ∈ t, x < 4294967296) (hs : s.size ≤ 1099511627776) :
    Calls Try.prog 15 #[.slice A n c, .string s] w fun e w' => e = .returned (.tuple #[.slice none 0 0, .int .i64 0, .int .i64 1]) ∧ Below w.heap.size w w' := by
  have HR := Lib.hid hr
  have HL := Lib.hid hl
  have HT := Lib.hid ht
  clear hr hl ht
  go_enter Try.func15, Try.ntmps15
  go_wp2
  go_loopw [7, 8] (fun v r wr => v = .slice none 0 0 ∧ r = .string s ∧ wr = w) (fun _ r _ => strLen r)
  case atStart => exact ⟨rfl, rfl, rfl⟩
  case round =>
    obtain ⟨rfl, rfl, rfl⟩ := hrel
    go_wp2_with fail
    refine (refNext_odd A n c t s _ HR.out HL.out h256 HT.out).mono ?_
    rintro e w1 ⟨rfl, rfl⟩
    have hw : IntKind.i64.wrap ((s.size : Int) - (s.size : Int)) = 0 := by rw [Int.sub_self]; exact IntWalk.i64_in _ (by omega)
    go_wp2
    go_ret3
    exact ⟨by simp, Below.refl _ _⟩

end Go.Proofs.Ytehclfpjccfmeaa.F3
