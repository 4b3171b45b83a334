/-
  Layer 3, walks: rows of texts compared, counted, put in frames.
-/
import Derived.Test.YtehclfpjccfmeaaF3e
namespace Go.Proofs.Ytehclfpjccfmeaa.F3
open Go.RowKit Go.PlainAid V1 C2 M2 M3
set_option linter.unusedVariables false

set_option maxRecDepth 100000 in
set_option maxHeartbeats 400000 in
theorem same_any (A B : Option Addr) (n c d : Nat) (ls : List (List UInt8)) (w : World) (ha : Rd w A (strs ls)) (hb : Rd w B (strs ls)) (hn : ls.length = n) (hle : n ≤ 1099511627776) :
    Calls Try.prog 16 #[.slice A n c, .slice B n d] w fun e w' => e = .returned (.bool true) ∧ Below w.heap.size w w' := by
  subst hn
  have HA := Lib.hid ha
  have HB := Lib.hid hb
  clear ha hb
  go_enter Try.func16, Try.ntmps16
  go_wp2
  go_loopw [5] (fun i wr => ∃ k : Nat, k ≤ ls.length ∧ i = .int .i64 (k : Int) ∧ Below w.heap.size w wr) (fun i _ => ls.length - (intOf i).toNat)
  case atStart => exact ⟨0, by omega, rfl, Below.refl _ _⟩
  case round =>
    obtain ⟨k, hk, rfl, hbw⟩ := hrel
    by_cases hlt : k < ls.length
    · have h1 := HA.out.keep hbw
      have h2 := HB.out.keep hbw
      obtain ⟨b, off, rfl, hbl, hc⟩ := h1.get (k := k) (by rw [strs_len]; exact hlt)
      obtain ⟨b', off', rfl, hbl', hc'⟩ := h2.get (k := k) (by rw [strs_len]; exact hlt)
      rw [strs_get] at hc hc'
      clear h1 h2
      go_wp2
      go_quiet (fail)
      go_wp2
      go_roundw
      case rel => exact ⟨k + 1, by omega, by go_num, below_drewN hbw nq⟩
      case measure => simp [intOf]; omega
    · obtain rfl : k = ls.length := by omega
      go_wp2
      go_ret
      exact ⟨rfl, hbw⟩

/-- How many bytes there are. -/
def total (ls : List (List UInt8)) : Nat := (ls.map List.length).sum
theorem total_snoc (ls : List (List UInt8)) (k : Nat) (h : k < ls.length) : total (ls.take (k + 1)) = total (ls.take k) + ls[k].length := by
  unfold total; rw [List.take_succ_eq_append_getElem h, List.map_append, List.sum_append]; simp only [List.map_cons, List.map_nil, List.sum_cons, List.sum_nil]; omega
theorem total_le (ls : List (List UInt8)) (k : Nat) : total (ls.take k) ≤ total ls := by
  unfold total
  conv => rhs; rw [← List.take_append_drop k ls]
  rw [List.map_append, List.sum_append]; omega

/-- Are they short enough, and few? -/
def fewB (ls : List (List UInt8)) : Bool := decide (total ls ≤ 3000 ∧ ls.length ≤ 50)
theorem fewB_ok {ls : List (List UInt8)} (h : fewB ls = true) : total ls ≤ 3000 ∧ ls.length ≤ 50 := by simpa [fewB] using h
theorem ret1b {a b : Bool} (h : a = b) : Ending.returned (.bool a) = Ending.returned (.bool b) := by rw [h]

set_option maxRecDepth 100000 in
set_option maxHeartbeats 400000 in
theorem few_any (A : Option Addr) (n c : Nat) (ls : List (List UInt8)) (w : World) (ha : Rd w A (strs ls)) (hn : ls.length = n) (hle : n ≤ 9223372036854775807) (hz : ∀ l ∈ ls, l.length ≤ 9223372036854770000) :
    Calls Try.prog 17 #[.slice A n c] w fun e w' => e = .returned (.bool (fewB ls)) ∧ w = w' := by
  subst hn
  have HA := Lib.hid ha
  have HZ := Lib.hid hz
  clear ha hz
  go_enter Try.func17, Try.ntmps17
  go_wp2
  go_loop [3, 4] (fun v i => ∃ k : Nat, k ≤ ls.length ∧ i = .int .i64 (k : Int) ∧ v = .int .i64 ((total (ls.take k) : Nat) : Int) ∧ total (ls.take k) ≤ 3000) (fun _ i => ls.length - (intOf i).toNat)
  case atStart => exact ⟨0, by omega, rfl, by simp [total], by simp [total]⟩
  case round =>
    obtain ⟨k, hk, rfl, rfl, ht⟩ := hrel
    by_cases hlt : k < ls.length
    · obtain ⟨b, off, rfl, hbl, hc⟩ := HA.out.get (k := k) (by rw [strs_len]; exact hlt)
      rw [strs_get] at hc
      have HT := Lib.hid (total_snoc ls k hlt)
      have HL := Lib.hid (total_le ls (k + 1))
      have hzk := HZ.out ls[k] (List.getElem_mem hlt)
      have hbs : (bs ls[k]).size = ls[k].length := rfl
      have hd : decide ((k : Int) < (ls.length : Int)) = true := by simp; omega
      generalize total (ls.take k) = m at ht HT
      have hw : IntKind.i64.wrap ((m : Int) + (ls[k].length : Int)) = ((m + ls[k].length : Nat) : Int) := IntWalk.i64_in _ (by omega)
      by_cases h3 : m + ls[k].length ≤ 3000
      · have hd3 : decide (3000 < (m : Int) + (ls[k].length : Int)) = false := by simp; omega
        go_wp2
        go_round
        case rel => exact ⟨k + 1, by omega, by go_num, by rw [HT.out]; simp, by rw [HT.out]; exact h3⟩
        case measure => simp [intOf]; omega
      · have hd3 : decide (3000 < (m : Int) + (ls[k].length : Int)) = true := by simp; omega
        go_wp2
        go_ret
        have h1 := HT.out
        have h2 := HL.out
        have h4 : fewB ls = false := decide_eq_false (fun h => by have := h.1; omega)
        exact ⟨ret1b h4.symm, rfl⟩
    · obtain rfl : k = ls.length := by omega
      rw [List.take_length] at ht
      have hd : decide (((ls.length : Nat) : Int) < (ls.length : Int)) = false := by simp
      go_wp2
      go_ret
      refine ⟨ret1b ?_, rfl⟩
      unfold fewB
      rw [decide_eq_decide]
      omega

/-- Where each frame ends. -/
def endsOf (ls : List (List UInt8)) : List Nat := (List.range ls.length).map fun k => (frms (ls.take (k + 1))).length
theorem endsOf_len (ls : List (List UInt8)) : (endsOf ls).length = ls.length := by simp [endsOf]
theorem endsOf_take (ls : List (List UInt8)) (k : Nat) (h : k < ls.length) : (endsOf ls).take (k + 1) = (endsOf ls).take k ++ [(frms (ls.take (k + 1))).length] := by
  rw [List.take_succ_eq_append_getElem (by rw [endsOf_len]; exact h)]
  simp [endsOf]
theorem frms_take (ls : List (List UInt8)) (k : Nat) (h : k < ls.length) : frms (ls.take (k + 1)) = frms (ls.take k) ++ frm ls[k] := by
  rw [List.take_succ_eq_append_getElem h, frms_snoc]
theorem frms_le (ls : List (List UInt8)) (k : Nat) : (frms (ls.take k)).length ≤ (frms ls).length := by
  conv => rhs; rw [← List.take_append_drop k ls, frms_append]
  simp
theorem frms_len (ls : List (List UInt8)) : 5 * ls.length ≤ (frms ls).length := by
  induction ls with
  | nil => simp [frms]
  | cons l ls ih => rw [frms_cons, List.length_append, List.length_cons]; have := frm_pos l; omega
theorem frms_mem {ls : List (List UInt8)} {l : List UInt8} (h : l ∈ ls) : l.length ≤ (frms ls).length := by
  induction ls with
  | nil => simp at h
  | cons a ls ih =>
    rw [frms_cons, List.length_append]
    rcases List.mem_cons.1 h with rfl | h
    · have := frm_pos l; omega
    · have := ih h; omega

/-- WHAT THE LOOP OF all KEEPS. -/
def AllRel (ls : List (List UInt8)) (w : World) (s v i : Value) (wr : World) : Prop :=
  ∃ k : Nat, k ≤ ls.length ∧ i = .int .i64 (k : Int) ∧ s = .string (bs (frms (ls.take k))) ∧ wr.ownsRow w.heap.size 3 1 v k (ints ((endsOf ls).take k)) ∧ Below w.heap.size w wr

set_option maxRecDepth 100000 in
set_option maxHeartbeats 1000000 in
theorem all_any (A : Option Addr) (n c : Nat) (ls : List (List UInt8)) (w : World) (ha : Rd w A (strs ls)) (hn : ls.length = n) (hle : (frms ls).length ≤ 1000000) :
    Calls Try.prog 18 #[.slice A n c] w fun e w' => ∃ v, e = .returned (.tuple #[.string (bs (frms ls)), v]) ∧ w'.ownsRow w.heap.size 3 1 v ls.length (ints (endsOf ls)) ∧ Below w.heap.size w w' := by
  subst hn
  obtain ⟨i0, hi0, hz0, hz1, hz2⟩ := info_parts info_int
  have h5 := frms_len ls
  have HA := Lib.hid ha
  have h0 : AllRel ls w (.string ⟨#[]⟩) (.slice none 0 0) (.int .i64 0) w := ⟨0, by omega, rfl, rfl, World.ownsRow_nil _ _ _ _, Below.refl _ _⟩
  have H0 := Lib.hid h0
  clear ha h0
  go_enter Try.func18, Try.ntmps18
  go_wp2
  go_loopw [4, 5, 6] (fun s v i wr => AllRel ls w s v i wr) (fun _ _ i _ => ls.length - (intOf i).toNat)
  case atStart => exact H0.out
  case round =>
    obtain ⟨k, hk, rfl, rfl, ho, hb⟩ := hrel
    clear H0
    have hB : w.heap.size ≤ wr.heap.size := hb.size
    by_cases hlt : k < ls.length
    · have h1 := HA.out.keep hb
      obtain ⟨b, off, rfl, hbl, hc⟩ := h1.get (k := k) (by rw [strs_len]; exact hlt)
      rw [strs_get] at hc
      have HF := Lib.hid (frms_take ls k hlt)
      have HE := Lib.hid (endsOf_take ls k hlt)
      have hfl := frms_le ls (k + 1)
      have hll := frms_mem (List.getElem_mem hlt)
      have hlz : (bs ls[k]).size ≤ 1048576 := by rw [bs_size]; omega
      have hd : decide ((k : Int) < (ls.length : Int)) = true := by simp; omega
      clear h1
      go_wp2
      go_region_with (first | (go_at_call 9; refine (tb_any false _).mono ?_; rintro e w2 ⟨A2, c2, rfl, hr2, hb2⟩; have hcc := (hb2.cell (p := ⟨b, off + k, none⟩) hbl).trans hc) | (go_at_call 10; refine (of_tab _ _ (bs ls[k]) _ hr2 hlz).mono ?_; rintro e w3 ⟨rfl, hb3⟩))
      all_goals have hb4 : Below w.heap.size w w3 := (hb.trans ((below_drew1 hb2).mono hB)).trans (hb3.mono (Nat.le_trans hB (below_drew1 hb2).size))
      all_goals have ho3 := own_keep (own_keep ho (below_drew1 hb2)) hb3
      all_goals clear hb hb2 hb3 ho hr2 hcc hc
      all_goals rw [bs_list]
      all_goals have hB3 : w.heap.size ≤ w3.heap.size := hb4.size
      all_goals have hs1 : (bs (frms (ls.take k))).size = (frms (ls.take k)).length := rfl
      all_goals have hs2 : (bs (frm ls[k])).size = (frm ls[k]).length := rfl
      all_goals have hs3 := congrArg List.length HF.out
      all_goals rw [List.length_append] at hs3
      all_goals go_wp2_with (at_builtin; refine wpList_append_own _ rfl (.tmp 27) (.tmp 30) 36 rfl w.heap.size 3 i0 (.int .i64 0) 1 8 Try.underlying36 hi0 hz0 hz1 hz2 rfl (by decide) _ _ _ rfl (ho3.alloc _) ⟨w3.heap.size, 0, none⟩ 1 1 [.int .i64 (((frms (ls.take k)).length : Int) + ((frm ls[k]).length : Int))] rfl rfl (cell_one_new _ _ _) (by simp [Value.oneCell']) (by unfold maxLen; omega) (by omega) (by first | omega | (simp; omega)) ?_; intro v1 w4 hown1 hg1 _)
      all_goals go_wp2
      all_goals go_roundw
      all_goals first | exact ⟨k + 1, by omega, by go_num, by rw [HF.out, bs_join], by rw [HE.out, ints_snoc, hs3]; push_cast; exact hown1, (hb4.alloc hB3 _).grown hg1 (by simp; omega) (fun q hq => (ho3.lt q hq).1)⟩ | (simp [intOf]; omega)
    · obtain rfl : k = ls.length := by omega
      rw [List.take_of_length_le (by rw [endsOf_len]; exact Nat.le_refl _)] at ho
      obtain ⟨A, c, rfl, _, _⟩ := Rd.of_own ho
      go_wp2
      go_ret2
      rw [List.take_length]
      exact ⟨_, rfl, ho, hb⟩

theorem split_tab (A : Option Addr) (c : Nat) (s : ByteArray) (hs : s.size ≤ 1099511627776) (w : World) (hr : Rd w A (u32s tab)) :
    Calls Try.prog 14 #[.slice A 256 c, .string s] w fun e w' => ∃ B d, e = .returned (.tuple #[.slice B (split s.data.toList).1.length d, .int .i64 ((s.size : Int) - ((split s.data.toList).2.1.length : Int)), .int .i64 (split s.data.toList).2.2]) ∧
      Rd w' B (strs (split s.data.toList).1) ∧ Below w.heap.size w w' := by
  refine (split_any A c s hs w hr).mono ?_
  rintro e w' ⟨v, rfl, ho, hb⟩
  obtain ⟨B, d, rfl, h, _⟩ := Rd.of_own ho
  exact ⟨B, d, rfl, h, hb⟩
theorem split_as {A : Option Addr} {c : Nat} {s : ByteArray} (hs : s.size ≤ 1099511627776) {w : World} (hr : Rd w A (u32s tab)) {ls : List (List UInt8)} {r : List UInt8} {x : Int} (h : split s.data.toList = (ls, r, x)) :
    Calls Try.prog 14 #[.slice A 256 c, .string s] w fun e w' => ∃ B d, e = .returned (.tuple #[.slice B ls.length d, .int .i64 ((s.size : Int) - (r.length : Int)), .int .i64 x]) ∧
      Rd w' B (strs ls) ∧ Below w.heap.size w w' := by
  have := split_tab A c s hs w hr
  rw [h] at this
  exact this
theorem refSplit_as {A : Option Addr} {c : Nat} {s : ByteArray} (hs : s.size ≤ 1099511627776) {w : World} (hr : Rd w A (u32s tab)) {ls : List (List UInt8)} {r : List UInt8} {x : Int} (h : split s.data.toList = (ls, r, x)) :
    Calls Try.prog 15 #[.slice A 256 c, .string s] w fun e w' => ∃ B d, e = .returned (.tuple #[.slice B ls.length d, .int .i64 ((s.size : Int) - (r.length : Int)), .int .i64 x]) ∧
      Rd w' B (strs ls) ∧ Below w.heap.size w w' := by
  have := refSplit_any A c s hs w hr
  rw [h] at this
  refine this.mono ?_
  rintro e w' ⟨v, rfl, ho, hb⟩
  obtain ⟨B, d, rfl, h, _⟩ := Rd.of_own ho
  exact ⟨B, d, rfl, h, hb⟩
theorem next_as {A : Option Addr} {c : Nat} {s : ByteArray} {w : World} (hr : Rd w A (u32s tab)) (hs : s.size ≤ 9223372036854775807) {x r : List UInt8} {y : Int} (h : next s.data.toList = (x, r, y)) :
    Calls Try.prog 12 #[.slice A 256 c, .string s] w fun e w' => e = .returned (.tuple #[.string (bs x), .string (bs r), .int .i64 y]) ∧ Below w.heap.size w w' := by
  have := next_any A c s w hr hs
  rw [h] at this
  exact this

theorem frm_ab : frm [97, 98] = [2, 97, 98, 158, 131, 72, 109] := by decide +kernel
theorem split_ab : split (frm [97, 98] ++ (frm [97, 98]).take 1) = ([[97, 98]], (frm [97, 98]).take 1, 10) := by
  have := split_cut [[97, 98]] [97, 98] 1 (by simp) (by simp) (by omega) (by rw [frm_ab]; simp)
  rw [show frms [[97, 98]] = frm [97, 98] by simp [frms]] at this
  exact this
theorem next_ab : next ((frm [97, 98]).take 6 ++ [120]) = ([], [], 30) := by decide +kernel

set_option maxRecDepth 100000 in
set_option maxHeartbeats 1000000 in
theorem awake_any (w : World) : Calls Try.prog 8 #[] w fun e w' => e = .returned (.bool true) ∧ Below w.heap.size w w' := by
  have hl : (frm [97, 98]).length = 7 := by rw [frm_ab]; rfl
  have h1 := split_ab
  have h2 := next_ab
  have c1 : ∀ (A : Option Addr) (c : Nat) (w : World), Rd w A (u32s tab) → Calls Try.prog 10 #[.slice A 256 c, .string ⟨#[97, 98]⟩] w fun e w' => e = .returned (.tuple #[.string (bs (frm [97, 98])), .int .i64 0]) ∧ Below w.heap.size w w' := fun A c w h =>
    of_tab A c ⟨#[97, 98]⟩ w h (by decide)
  generalize frm [97, 98] = a at hl h1 h2 c1
  have hsz : (bs a).size = 7 := by rw [bs_size]; exact hl
  have e1 : (bs a).extract 0 1 = bs (a.take 1) := ext_pre a 1
  have e6 : (bs a).extract 0 6 = bs (a.take 6) := ext_pre a 6
  have hs1 : (bs (a.take 1)).size = 1 := by rw [bs_size, List.length_take]; omega
  have hs6 : (bs (a.take 6)).size = 6 := by rw [bs_size, List.length_take]; omega
  have j1 : bs a ++ bs (a.take 1) = bs (a ++ a.take 1) := bs_join _ _
  have j6 : bs (a.take 6) ++ ⟨#[120]⟩ = bs (a.take 6 ++ [120]) := bs_join _ [120]
  have z1 : (bs (a ++ a.take 1)).size = 8 := by rw [bs_size, List.length_append, List.length_take]; omega
  have z6 : (bs (a.take 6 ++ [120])).size = 7 := by rw [bs_size, List.length_append, List.length_take]; simp; omega
  have hab : (bs [97, 98]).toList = (ByteArray.mk #[97, 98]).toList := rfl
  have H1 := Lib.hid h1
  have H2 := Lib.hid h2
  have C1 := Lib.hid c1
  have E1 := Lib.hid e1
  have E6 := Lib.hid e6
  have J1 := Lib.hid j1
  have J6 := Lib.hid j6
  clear h1 h2 c1 e1 e6 j1 j6
  go_enter Try.func8, Try.ntmps8
  go_wp2_with fail
  refine (refTable_any _).mono ?_
  rintro e w1 ⟨A, c, rfl, hr, hb1⟩
  have HR := Lib.hid hr
  clear hr
  go_wp2_with fail
  refine (C1.out A c _ HR.out).mono ?_
  rintro e w2 ⟨rfl, hb2⟩
  have HR2 := Lib.hid (HR.out.keep hb2)
  have hb12 := hb1.trans (hb2.mono hb1.size)
  clear hb1 hb2 HR
  go_wp2_with fail
  rw [E1.out, J1.out]
  refine (split_as (by omega) HR2.out H1.out).mono ?_
  rintro e w3 ⟨B, d, rfl, hrd, hb3⟩
  have HR3 := Lib.hid (HR2.out.keep hb3)
  have hb13 := hb12.trans (hb3.mono hb12.size)
  have HD := Lib.hid hrd
  clear hb12 hb3 HR2 hrd
  go_wp2_with fail
  rw [E6.out, J6.out]
  refine (next_as HR3.out (by omega) H2.out).mono ?_
  rintro e w4 ⟨rfl, hb4⟩
  obtain ⟨b, off, rfl, hbl, hc⟩ := (HD.out.keep hb4).get (k := 0) (by rw [strs_len]; simp)
  rw [strs_get] at hc
  have hc : w4.cell? ⟨b, off, none⟩ = some (.string (bs [97, 98])) := hc
  have hb14 := hb13.trans (hb4.mono hb13.size)
  clear hb13 hb4 HR3
  go_wp2
  go_ret
  exact ⟨by simp, hb14⟩

end Go.Proofs.Ytehclfpjccfmeaa.F3
