/-
  Layer 7, walks: Join, Clash.
-/
import Derived.Test.YthecofkkacieaaaDoorP7e
import Derived.Test.YthecofkkacieaaaDoorLay7
namespace Go.Proofs.YthecofkkacieaaaDoor.P7
open Go.RowKit Go.PlainAid M7
open S5 (Env ts)
set_option linter.unusedVariables false

theorem extra : Builder.Extra Tryd.prog Tryd.lays156_ren where
  sizeBuilder := by kernel_rfl
  liesBuilder := by kernel_rfl
  t5 := Tryd.underlying5
  a5 := Tryd.isAgg5
  z5 := Tryd.sizeOf5
  v5 := Tryd.zeroValue5
  infoByte := by kernel_rfl
  cellsByte := by kernel_rfl
  sizeByte := by kernel_rfl
  neB5 := by decide

theorem map_bs (xs : List (List UInt8)) : (xs.map bs).map (·.data.toList) = xs := by
  rw [List.map_map]
  conv => rhs; rw [← List.map_id xs]
  rfl
theorem join_empty {A : Option Addr} {c : Nat} (w : World) :
    Calls Tryd.prog 29 #[.slice A 0 c, .string ⟨#[47]⟩] w fun e w' => e = .returned (.string (bs [])) ∧ Below w.heap.size w w' :=
  (Any.strings_Join_none Tryd.lays156 extra A c ⟨#[47]⟩ w).mono fun e w' ⟨he, hw⟩ => ⟨he, hw ▸ Below.refl _ _⟩
theorem join_in {A : Option Addr} {n c : Nat} (xs : List (List UInt8)) (w : World) (hr : Rd w A (ts xs)) (hn : xs.length = n) (hc : n ≤ c) (hle : n ≤ 1000000) (hz : (joinR xs).length ≤ 140737488355328) :
    Calls Tryd.prog 29 #[.slice A n c, .string ⟨#[47]⟩] w fun e w' => e = .returned (.string (bs (Lib.join xs [47]))) ∧ Below w.heap.size w w' := by
  subst hn
  cases xs with
  | nil => exact join_empty w
  | cons x r =>
    rcases hr with hr | ⟨b, off, rfl, hb, hcell⟩
    · cases hr
    · have hj := Any.strings_Join Tryd.lays156 extra b off c ((x :: r).map bs) ⟨#[47]⟩ w ?_ hb (by rw [List.length_map]; omega) (by rw [List.length_map]; exact hc) ?_
      · rw [List.length_map] at hj
        refine hj.mono ?_
        rintro e w' ⟨rfl, hb'⟩
        refine ⟨?_, hb'⟩
        rw [map_bs]
        rfl
      · intro j y hy
        rw [List.getElem?_map] at hy
        obtain ⟨z, hz1, rfl⟩ := Option.map_eq_some_iff.1 hy
        obtain ⟨hj, hz2⟩ := List.getElem?_eq_some_iff.1 hz1
        have := hcell j (by rw [S5.ts_len]; exact hj)
        rw [this]
        congr 1
        rw [← hz2]
        unfold ts
        rw [List.getElem_map]
      · rw [map_bs]
        have := congrArg List.length (join_joinR (x :: r))
        simp only [List.length_cons] at this
        show (Lib.join (x :: r) [47]).length ≤ _
        omega

set_option maxRecDepth 100000 in
set_option maxHeartbeats 400000 in
theorem join_any {A : Option Addr} {n c : Nat} (xs : List (List UInt8)) (w : World) (hr : Rd w A (ts xs)) (hn : xs.length = n) (hc : n ≤ c) (hle : n ≤ 1000000) (hz : (joinR xs).length ≤ 140737488355328) :
    Calls Tryd.prog 17 #[.slice A n c] w fun e w' => e = .returned (.string (bs (joinR xs))) ∧ Below w.heap.size w w' := by
  have hj := join_joinR xs
  have hl := congrArg List.length hj
  simp only [List.length_cons] at hl
  have hs : ¬ 9223372036854775807 < (⟨#[47]⟩ : ByteArray).size + (bs (Lib.join xs [47])).size := by rw [bs_size, show (⟨#[47]⟩ : ByteArray).size = 1 from rfl]; omega
  have hb : (⟨#[47]⟩ : ByteArray) ++ bs (Lib.join xs [47]) = bs (joinR xs) := by rw [← hj]; exact bs_join [47] _
  have HB := Lib.hid hb
  clear hj hl hb
  go_enter Tryd.func17, Tryd.ntmps17
  go_wp2_with fail
  refine (join_in xs w hr hn hc hle hz).mono ?_
  rintro e w1 ⟨rfl, hb1⟩
  go_wp2
  go_ret
  exact ⟨by rw [← HB.out]; rfl, hb1⟩

theorem ahead_take {xs : List (List UInt8)} {k : Nat} (h : k < xs.length) : M7.ahead (xs.take (k + 1)) = M7.ahead (xs.take k) ++ 47 :: xs[k] := by
  rw [List.take_succ_eq_append_getElem h, ahead_append]
  simp [M7.ahead]
theorem ahead_part (xs : List (List UInt8)) (k : Nat) : (M7.ahead (xs.take k)).length ≤ (M7.ahead xs).length := by
  conv => rhs; rw [← List.take_append_drop k xs, ahead_append, List.length_append]
  omega
theorem joinR_len (xs : List (List UInt8)) : (M7.ahead xs).length ≤ (joinR xs).length := by
  cases xs with
  | nil => simp [M7.ahead]
  | cons x r => rw [joinR_cons]; exact Nat.le_refl _

set_option maxRecDepth 100000 in
set_option maxHeartbeats 400000 in
theorem refJoin_any {A : Option Addr} {n c : Nat} (xs : List (List UInt8)) (w : World) (hr : Rd w A (ts xs)) (hn : xs.length = n) (hle : n ≤ 1000000) (hz : (joinR xs).length ≤ 140737488355328) :
    Calls Tryd.prog 18 #[.slice A n c] w fun e w' => e = .returned (.string (bs (joinR xs))) ∧ Below w.heap.size w w' := by
  subst hn
  have HR := Lib.hid hr
  have hjl := joinR_len xs
  clear hr
  go_enter Tryd.func18, Tryd.ntmps18
  go_wp2
  go_loopw [3, 4] (fun v iv wr => ∃ k : Nat, k ≤ xs.length ∧ iv = .int .i64 (k : Int) ∧ v = .string (bs (M7.ahead (xs.take k))) ∧ Below w.heap.size w wr) (fun _ iv _ => xs.length - (intOf iv).toNat)
  case atStart => exact ⟨0, by omega, rfl, rfl, Below.refl _ _⟩
  case round =>
    obtain ⟨k, hk, rfl, rfl, hb⟩ := hrel
    by_cases hlt : k < xs.length
    · have h1 := HR.out.keep hb
      obtain ⟨b, off, rfl, hbl, hc⟩ := h1.get (k := k) (by rw [S5.ts_len]; exact hlt)
      have hce : wr.cell? ⟨b, off + k, none⟩ = some (.string (bs xs[k])) := by rw [hc]; congr 1; unfold ts; rw [List.getElem_map]
      have ht := ahead_take hlt
      have hp := ahead_part xs (k + 1)
      rw [ht] at hp
      simp only [List.length_append, List.length_cons] at hp
      have e1 : bs (M7.ahead (xs.take k)) ++ (⟨#[47]⟩ : ByteArray) = bs (M7.ahead (xs.take k) ++ [47]) := bs_join _ [47]
      have e2 : bs (M7.ahead (xs.take k) ++ [47]) ++ bs xs[k] = bs (M7.ahead (xs.take (k + 1))) := by rw [bs_join, ht]; simp
      have s1 : ¬ 9223372036854775807 < (bs (M7.ahead (xs.take k))).size + (⟨#[47]⟩ : ByteArray).size := by rw [bs_size, show (⟨#[47]⟩ : ByteArray).size = 1 from rfl]; omega
      have s2 : ¬ 9223372036854775807 < (bs (M7.ahead (xs.take k) ++ [47])).size + (bs xs[k]).size := by rw [bs_size, bs_size, List.length_append]; simp; omega
      clear h1 hc ht hp
      generalize xs[k] = y at *
      go_wp2
      go_roundw
      case rel => exact ⟨k + 1, by omega, by go_num, rfl, hb⟩
      case measure => simp [intOf]; omega
    · obtain rfl : k = xs.length := by omega
      rw [List.take_length]
      cases xs with
      | nil =>
        have hq : (bs (M7.ahead [])).toList.isEmpty = true := by rw [bs_toList]; rfl
        go_wp2
        go_ret
        exact ⟨rfl, hb⟩
      | cons x r =>
        have hq : (bs (M7.ahead (x :: r))).toList.isEmpty = false := by rw [bs_toList]; rfl
        have HJ := Lib.hid (joinR_cons x r)
        go_wp2
        go_ret
        exact ⟨by rw [HJ.out]; rfl, hb⟩

theorem clash_parts {s : List UInt8} {t r i : Int} {l : List UInt8} {x : Int} (hc : clashR s t r i = (l, x)) :
    (nameB s = false ∧ l = [] ∧ x = 70) ∨ (nameB s = true ∧ M5.rightId t r i = false ∧ l = [] ∧ x = 1) ∨ (nameB s = true ∧ M5.rightId t r i = true ∧ l = s ++ 126 :: M5.textR t r i ∧ x = 0) := by
  cases hn : nameB s with
  | false => rw [clashR_name hn] at hc; injection hc with h1 h2; exact .inl ⟨rfl, h1.symm, h2.symm⟩
  | true =>
    cases hr : M5.rightId t r i with
    | false => rw [clashR_id hn hr] at hc; injection hc with h1 h2; exact .inr (.inl ⟨rfl, rfl, h1.symm, h2.symm⟩)
    | true => rw [clashR_ok hn hr] at hc; injection hc with h1 h2; exact .inr (.inr ⟨rfl, rfl, h1.symm, h2.symm⟩)
theorem rightId_as {t r i : Int} {b : Bool} (h : M5.rightId t r i = b) (w : World) :
    Calls Tryd.prog 20 #[.agg #[.int .i64 t, .int .i64 r, .int .i64 i]] w fun e w' => e = .returned (.bool b) ∧ Below w.heap.size w w' := by
  have := S5.rightId_any t r i w
  rw [h] at this
  exact this

set_option maxRecDepth 100000 in
set_option maxHeartbeats 1000000 in
theorem clash_any (s : List UInt8) (t r i : Int) (w : World) (he : Env w) {l : List UInt8} {x : Int} (hc : clashR s t r i = (l, x)) :
    Calls Tryd.prog 7 #[.string (bs s), .agg #[.int .i64 t, .int .i64 r, .int .i64 i]] w fun e w' => e = .returned (.tuple #[.string (bs l), .int .i64 x]) ∧ Below w.heap.size w w' := by
  have E0 := Lib.hid (he.keep (S5.new1 w (.cells #[.int .i64 t, .int .i64 r, .int .i64 i] 25)))
  have B0 := Lib.hid (S5.new1 w (.cells #[.int .i64 t, .int .i64 r, .int .i64 i] 25))
  have X0 : Hid (S5.Trio (w.alloc (.cells #[.int .i64 t, .int .i64 r, .int .i64 i] 25)) w.heap.size 25 t r i) := heap_alloc_new w _
  have HP := clash_parts hc
  clear hc he
  rcases HP with ⟨hn, rfl, rfl⟩ | ⟨hn, hr, rfl, rfl⟩ | ⟨hn, hr, rfl, rfl⟩
  · have HN := Lib.hid hn
    clear hn
    go_enter Tryd.func7, Tryd.ntmps7
    go_wp2_with fail
    refine (name_as HN.out _).mono ?_
    rintro e w1 ⟨rfl, hb1⟩
    go_wp2
    go_ret2
    exact ⟨rfl, chain B0.out hb1⟩
  · have HN := Lib.hid hn
    have HR := Lib.hid hr
    clear hn hr
    go_enter Tryd.func7, Tryd.ntmps7
    go_wp2_with fail
    refine (name_as HN.out _).mono ?_
    rintro e w1 ⟨rfl, hb1⟩
    have hb := chain B0.out hb1
    obtain ⟨x0, x1, x2⟩ := (X0.out.keep hb1).cells
    go_wp2_with fail
    refine (rightId_as HR.out _).mono ?_
    rintro e w2 ⟨rfl, hb2⟩
    have hb := chain hb hb2
    clear x0 x1 x2 hb1 hb2
    go_wp2
    go_ret2
    exact ⟨rfl, hb⟩
  · have hl := name_len hn
    have htl := textR_len t r i
    have e1 : bs s ++ (⟨#[126]⟩ : ByteArray) = bs (s ++ [126]) := bs_join s [126]
    have e2 : bs (s ++ [126]) ++ bs (M5.textR t r i) = bs (s ++ 126 :: M5.textR t r i) := by rw [bs_join]; simp
    have s1 : ¬ 9223372036854775807 < (bs s).size + (⟨#[126]⟩ : ByteArray).size := by rw [bs_size, show (⟨#[126]⟩ : ByteArray).size = 1 from rfl]; omega
    have s2 : ¬ 9223372036854775807 < (bs (s ++ [126])).size + (bs (M5.textR t r i)).size := by rw [bs_size, bs_size, List.length_append]; simp; omega
    have HN := Lib.hid hn
    have HR := Lib.hid hr
    have HT := Lib.hid (rfl : M5.textR t r i = M5.textR t r i)
    clear hn hr
    go_enter Tryd.func7, Tryd.ntmps7
    go_wp2_with fail
    refine (name_as HN.out _).mono ?_
    rintro e w1 ⟨rfl, hb1⟩
    have hb := chain B0.out hb1
    have X1 := Lib.hid (X0.out.keep hb1)
    have E1 := Lib.hid (E0.out.keep hb1)
    obtain ⟨x0, x1, x2⟩ := X1.out.cells
    clear hb1
    go_wp2_with fail
    refine (rightId_as HR.out _).mono ?_
    rintro e w2 ⟨rfl, hb2⟩
    have hb := chain hb hb2
    have E2 := Lib.hid (E1.out.keep hb2)
    clear x0 x1 x2
    obtain ⟨x0, x1, x2⟩ := (X1.out.keep hb2).cells
    clear hb2
    go_wp2_with fail
    refine (S5.text_any t r i _ E2.out).mono ?_
    rintro e w3 ⟨rfl, hb3⟩
    have hb := chain hb hb3
    clear x0 x1 x2 hb3
    go_wp2
    go_ret2
    exact ⟨rfl, hb⟩

set_option maxRecDepth 100000 in
set_option maxHeartbeats 1000000 in
theorem refClash_any (s : List UInt8) (t r i : Int) (w : World) (he : Env w) {l : List UInt8} {x : Int} (hc : clashR s t r i = (l, x)) :
    Calls Tryd.prog 8 #[.string (bs s), .agg #[.int .i64 t, .int .i64 r, .int .i64 i]] w fun e w' => e = .returned (.tuple #[.string (bs l), .int .i64 x]) ∧ Below w.heap.size w w' := by
  have E0 := Lib.hid (he.keep (S5.new1 w (.cells #[.int .i64 t, .int .i64 r, .int .i64 i] 25)))
  have B0 := Lib.hid (S5.new1 w (.cells #[.int .i64 t, .int .i64 r, .int .i64 i] 25))
  have X0 : Hid (S5.Trio (w.alloc (.cells #[.int .i64 t, .int .i64 r, .int .i64 i] 25)) w.heap.size 25 t r i) := heap_alloc_new w _
  have HP := clash_parts hc
  clear hc he
  rcases HP with ⟨hn, rfl, rfl⟩ | ⟨hn, hr, rfl, rfl⟩ | ⟨hn, hr, rfl, rfl⟩
  · have HN := Lib.hid hn
    clear hn
    go_enter Tryd.func8, Tryd.ntmps8
    go_wp2_with fail
    refine (refName_as HN.out _).mono ?_
    rintro e w1 ⟨rfl, hb1⟩
    go_wp2
    go_ret2
    exact ⟨rfl, chain B0.out hb1⟩
  · have HN := Lib.hid hn
    have HR := Lib.hid (textR_nil.2 hr)
    clear hn hr
    have hq : (bs []).toList.isEmpty = true := by rw [bs_toList]; rfl
    go_enter Tryd.func8, Tryd.ntmps8
    go_wp2_with fail
    refine (refName_as HN.out _).mono ?_
    rintro e w1 ⟨rfl, hb1⟩
    have hb := chain B0.out hb1
    obtain ⟨x0, x1, x2⟩ := (X0.out.keep hb1).cells
    have E1 := Lib.hid (E0.out.keep hb1)
    go_wp2_with fail
    refine (S5.refText_any t r i _ E1.out).mono ?_
    rintro e w2 ⟨rfl, hb2⟩
    rw [HR.out]
    have hb := chain hb hb2
    clear x0 x1 x2 hb1 hb2
    go_wp2
    go_ret2
    exact ⟨rfl, hb⟩
  · have hl := name_len hn
    have htl := textR_len t r i
    have hne : (bs (M5.textR t r i)).toList.isEmpty = false := by
      rw [bs_toList]
      cases h : M5.textR t r i with
      | nil => rw [textR_nil.1 h] at hr; cases hr
      | cons a b => rfl
    have e1 : bs s ++ (⟨#[126]⟩ : ByteArray) = bs (s ++ [126]) := bs_join s [126]
    have e2 : bs (s ++ [126]) ++ bs (M5.textR t r i) = bs (s ++ 126 :: M5.textR t r i) := by rw [bs_join]; simp
    have s1 : ¬ 9223372036854775807 < (bs s).size + (⟨#[126]⟩ : ByteArray).size := by rw [bs_size, show (⟨#[126]⟩ : ByteArray).size = 1 from rfl]; omega
    have s2 : ¬ 9223372036854775807 < (bs (s ++ [126])).size + (bs (M5.textR t r i)).size := by rw [bs_size, bs_size, List.length_append]; simp; omega
    have HN := Lib.hid hn
    clear hn hr
    go_enter Tryd.func8, Tryd.ntmps8
    go_wp2_with fail
    refine (refName_as HN.out _).mono ?_
    rintro e w1 ⟨rfl, hb1⟩
    have hb := chain B0.out hb1
    obtain ⟨x0, x1, x2⟩ := (X0.out.keep hb1).cells
    have E1 := Lib.hid (E0.out.keep hb1)
    clear hb1
    go_wp2_with fail
    refine (S5.refText_any t r i _ E1.out).mono ?_
    rintro e w2 ⟨rfl, hb2⟩
    have hb := chain hb hb2
    clear x0 x1 x2 hb2
    go_wp2
    go_ret2
    exact ⟨rfl, hb⟩

end Go.Proofs.YthecofkkacieaaaDoor.P7
