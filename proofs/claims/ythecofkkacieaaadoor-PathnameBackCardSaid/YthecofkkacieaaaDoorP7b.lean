/-
  Layer 7, walks: what is seen.
-/
import Derived.Test.YthecofkkacieaaaDoorP7a
import Derived.Test.YthecofkkacieaaaDoorS5q
namespace Go.Proofs.YthecofkkacieaaaDoor.P7
open Go.RowKit Go.PlainAid M7
open S5 (Env parsedV)
set_option linter.unusedVariables false

theorem index_in {r : List UInt8} {c : UInt8} {x : Int} (h : Lib.indexByte r c = x) (w : World) :
    Calls Tryd.prog 44 #[.string (bs r), .string ⟨#[c]⟩] w fun e w' => e = .returned (.int .i64 x) ∧ w = w' :=
  (Any.stringslite_Index_one { Tryd.lays143 with } (bs r) c w).mono fun e w' ⟨he, hw⟩ => ⟨by rw [he, ← h]; rfl, hw.symm⟩
theorem index_at {r : List UInt8} {c : UInt8} {x : Int} (h : Lib.indexByte r c = x) (w : World) :
    Calls Tryd.prog 50 #[.string (bs r), .string ⟨#[c]⟩] w fun e w' => e = .returned (.int .i64 x) ∧ w = w' :=
  (Any.strings_Index_one Tryd.lays143 (bs r) c w).mono fun e w' ⟨he, hw⟩ => ⟨by rw [he, ← h]; rfl, hw.symm⟩

set_option maxRecDepth 100000 in
set_option maxHeartbeats 400000 in
theorem cutIn_none {l : List UInt8} (h : Lib.indexByte l 126 = -1) (w : World) :
    Calls Tryd.prog 34 #[.string (bs l), .string ⟨#[126]⟩] w fun e w' => e = .returned (.tuple #[.string (bs l), .string ⟨#[]⟩, .bool false]) ∧ Below w.heap.size w w' := by
  have HI := Lib.hid h
  clear h
  go_enter Tryd.func34, Tryd.ntmps34
  go_wp2_with fail
  refine (index_in HI.out w).mono ?_
  rintro e w1 ⟨rfl, rfl⟩
  go_wp2
  go_ret3
  exact ⟨rfl, Below.refl _ _⟩

set_option maxRecDepth 100000 in
set_option maxHeartbeats 400000 in
theorem cutIn_some {l : List UInt8} {m : Nat} (h : Lib.indexByte l 126 = (m : Int)) (hm : m < l.length) (hz : l.length ≤ 140737488351232) (w : World) :
    Calls Tryd.prog 34 #[.string (bs l), .string ⟨#[126]⟩] w fun e w' => e = .returned (.tuple #[.string (bs (l.take m)), .string (bs (l.drop (m + 1))), .bool true]) ∧ Below w.heap.size w w' := by
  have HI := Lib.hid h
  have h1 : m ≤ (bs l).size := by rw [bs_size]; omega
  have h2 : m + 1 ≤ (bs l).size := by rw [bs_size]; omega
  have e1 : (bs l).extract 0 m = bs (l.take m) := ext_pre l m
  have e2 : (bs l).extract (m + 1) (bs l).size = bs (l.drop (m + 1)) := ext_end (bs l) (m + 1)
  have E1 := Lib.hid e1
  have E2 := Lib.hid e2
  clear h e1 e2
  go_enter Tryd.func34, Tryd.ntmps34
  go_wp2_with fail
  refine (index_in HI.out w).mono ?_
  rintro e w1 ⟨rfl, rfl⟩
  go_wp2
  go_quiet (fail)
  go_wp2
  go_ret3
  exact ⟨by rw [← E1.out, ← E2.out]; rfl, below_drewN (Below.refl _ _) nq⟩

theorem cutB_is {x : UInt8} {l : List UInt8} (h : cutB x l = none) : Lib.indexByte l x = -1 := by
  rcases cutB_index x l with ⟨_, h2⟩ | ⟨m, _, _, h3⟩
  · exact h2
  · rw [h] at h3; cases h3
theorem cutB_at {x : UInt8} {l a b : List UInt8} (h : cutB x l = some (a, b)) : ∃ m : Nat, Lib.indexByte l x = (m : Int) ∧ m < l.length ∧ a = l.take m ∧ b = l.drop (m + 1) := by
  rcases cutB_index x l with ⟨h1, _⟩ | ⟨m, h1, h2, h3⟩
  · rw [h] at h1; cases h1
  · rw [h] at h3; injection h3 with h3; injection h3 with h4 h5
    exact ⟨m, h1, h2, h4, h5⟩

set_option maxRecDepth 100000 in
set_option maxHeartbeats 400000 in
theorem cut_none {l : List UInt8} (h : cutB 126 l = none) (w : World) :
    Calls Tryd.prog 24 #[.string (bs l), .string ⟨#[126]⟩] w fun e w' => e = .returned (.tuple #[.string (bs l), .string ⟨#[]⟩, .bool false]) ∧ Below w.heap.size w w' := by
  have HI := Lib.hid (cutB_is h)
  clear h
  go_enter Tryd.func24, Tryd.ntmps24
  go_wp2_with fail
  refine (cutIn_none HI.out w).mono ?_
  rintro e w1 ⟨rfl, hb⟩
  go_wp2
  go_ret3
  exact ⟨rfl, hb⟩

set_option maxRecDepth 100000 in
set_option maxHeartbeats 400000 in
theorem cut_some {l a b : List UInt8} (h : cutB 126 l = some (a, b)) (hz : l.length ≤ 140737488351232) (w : World) :
    Calls Tryd.prog 24 #[.string (bs l), .string ⟨#[126]⟩] w fun e w' => e = .returned (.tuple #[.string (bs a), .string (bs b), .bool true]) ∧ Below w.heap.size w w' := by
  obtain ⟨m, h1, h2, rfl, rfl⟩ := cutB_at h
  have HI := Lib.hid h1
  clear h h1
  go_enter Tryd.func24, Tryd.ntmps24
  go_wp2_with fail
  refine (cutIn_some HI.out h2 hz w).mono ?_
  rintro e w1 ⟨rfl, hb⟩
  go_wp2
  go_ret3
  exact ⟨rfl, hb⟩

theorem name_as {l : List UInt8} {b : Bool} (h : nameB l = b) (w : World) :
    Calls Tryd.prog 10 #[.string (bs l)] w fun e w' => e = .returned (.bool b) ∧ Below w.heap.size w w' := by
  have := name_any l w
  rw [h] at this
  exact this
theorem refName_as {l : List UInt8} {b : Bool} (h : nameB l = b) (w : World) :
    Calls Tryd.prog 11 #[.string (bs l)] w fun e w' => e = .returned (.bool b) ∧ Below w.heap.size w w' := by
  have := refName_any l w
  rw [h] at this
  exact this

set_option maxRecDepth 100000 in
set_option maxHeartbeats 400000 in
theorem seen_plain {l : List UInt8} (h : cutB 126 l = none) (w : World) :
    Calls Tryd.prog 12 #[.string (bs l)] w fun e w' => e = .returned (.bool (nameB l)) ∧ Below w.heap.size w w' := by
  have HI := Lib.hid h
  clear h
  cases hn : nameB l
  all_goals
    have HN := Lib.hid hn
    clear hn
    go_enter Tryd.func12, Tryd.ntmps12
    go_wp2_with fail
    refine (cut_none HI.out w).mono ?_
    rintro e w1 ⟨rfl, hb1⟩
    go_wp2_with fail
    refine (name_as HN.out w1).mono ?_
    rintro e w2 ⟨rfl, hb2⟩
    have hb := chain hb1 hb2
    clear hb1 hb2
    go_wp2
    go_ret
    exact ⟨rfl, hb⟩

set_option maxRecDepth 100000 in
set_option maxHeartbeats 400000 in
theorem seen_tilde {l a b : List UInt8} (h : cutB 126 l = some (a, b)) (hz : l.length ≤ 140737488351232) (w : World) (he : Env w) :
    Calls Tryd.prog 12 #[.string (bs l)] w fun e w' => e = .returned (.bool (nameB a && (M5.parseR b).isSome)) ∧ Below w.heap.size w w' := by
  have hbl : b.length ≤ 140737488351232 := by
    have := congrArg List.length (cutB_some h).1
    simp only [List.length_append, List.length_cons] at this
    omega
  have HI := Lib.hid h
  have HE := Lib.hid he
  clear h he
  cases hn : nameB a
  · have HN := Lib.hid hn
    clear hn
    go_enter Tryd.func12, Tryd.ntmps12
    go_wp2_with fail
    refine (cut_some HI.out hz w).mono ?_
    rintro e w1 ⟨rfl, hb1⟩
    go_wp2_with fail
    refine (name_as HN.out w1).mono ?_
    rintro e w2 ⟨rfl, hb2⟩
    have hb := chain hb1 hb2
    clear hb1 hb2
    go_wp2
    go_ret
    exact ⟨rfl, hb⟩
  · have HN := Lib.hid hn
    clear hn
    cases hp : M5.parseR b
    · have HP := Lib.hid hp
      clear hp
      go_enter Tryd.func12, Tryd.ntmps12
      go_wp2_with fail
      refine (cut_some HI.out hz w).mono ?_
      rintro e w1 ⟨rfl, hb1⟩
      go_wp2_with fail
      refine (name_as HN.out w1).mono ?_
      rintro e w2 ⟨rfl, hb2⟩
      have hb := chain hb1 hb2
      have he2 := HE.out.keep hb
      clear hb1 hb2
      go_wp2_with fail
      refine (S5.parse_not HP.out he2 hbl).mono ?_
      rintro e w3 ⟨rfl, hb3⟩
      have hb := chain hb hb3
      clear hb3 he2
      go_wp2
      go_ret
      exact ⟨rfl, hb.alloc hb.size _⟩
    · rename_i x
      obtain ⟨t, r, i⟩ := x
      have HP := Lib.hid hp
      clear hp
      go_enter Tryd.func12, Tryd.ntmps12
      go_wp2_with fail
      refine (cut_some HI.out hz w).mono ?_
      rintro e w1 ⟨rfl, hb1⟩
      go_wp2_with fail
      refine (name_as HN.out w1).mono ?_
      rintro e w2 ⟨rfl, hb2⟩
      have hb := chain hb1 hb2
      have he2 := HE.out.keep hb
      clear hb1 hb2
      go_wp2_with fail
      refine (S5.parse_some HP.out he2 hbl).mono ?_
      rintro e w3 ⟨rfl, hb3⟩
      have hb := chain hb hb3
      clear hb3 he2
      go_wp2
      go_ret
      exact ⟨rfl, hb.alloc hb.size _⟩

theorem seen_any (l : List UInt8) (hz : l.length ≤ 140737488351232) (w : World) (he : Env w) :
    Calls Tryd.prog 12 #[.string (bs l)] w fun e w' => e = .returned (.bool (seenB l)) ∧ Below w.heap.size w w' := by
  cases h : cutB 126 l with
  | none => rw [seen_name h]; exact seen_plain h w
  | some p => obtain ⟨a, b⟩ := p; rw [seen_cut h]; exact seen_tilde h hz w he

theorem cut_first {l : List UInt8} {k : Nat} (hk : k < l.length) (h : ∀ j (hj : j < l.length), j < k → l[j] ≠ 126) (hx : l[k] = 126) : cutB 126 l = some (l.take k, l.drop (k + 1)) := by
  have hl : l = l.take k ++ 126 :: l.drop (k + 1) := by
    rw [← hx]
    conv => lhs; rw [← List.take_append_drop k l, List.drop_eq_getElem_cons hk]
  conv => lhs; rw [hl]
  refine cutB_app _ _ (fun hm => ?_)
  obtain ⟨j, hj, hj2⟩ := List.getElem_of_mem hm
  rw [List.length_take] at hj
  rw [List.getElem_take] at hj2
  exact h j (by omega) (by omega) hj2
theorem cut_never {l : List UInt8} (h : ∀ j (hj : j < l.length), l[j] ≠ 126) : cutB 126 l = none :=
  cutB_not l fun hm => by
    obtain ⟨j, hj, hj2⟩ := List.getElem_of_mem hm
    exact h j hj hj2
theorem refParse_not {s : List UInt8} (h : M5.parseR s = none) (hz : s.length ≤ 140737488351232) (w : World) :
    Calls Tryd.prog 26 #[.string (bs s)] w fun e w' => e = .returned (.tuple #[.agg #[.int .i64 0, .int .i64 0, .int .i64 0], .bool false]) ∧ Below w.heap.size w w' := by
  have := S5.refParse_any s w hz
  rw [h] at this
  exact this
theorem refParse_some {s : List UInt8} {t r i : Int} (h : M5.parseR s = some (t, r, i)) (hz : s.length ≤ 140737488351232) (w : World) :
    Calls Tryd.prog 26 #[.string (bs s)] w fun e w' => e = .returned (.tuple #[.agg #[.int .i64 t, .int .i64 r, .int .i64 i], .bool true]) ∧ Below w.heap.size w w' := by
  have := S5.refParse_any s w hz
  rw [h] at this
  exact this

set_option maxRecDepth 100000 in
set_option maxHeartbeats 1000000 in
theorem refSeen_any (l : List UInt8) (hz : l.length ≤ 140737488351232) (w : World) :
    Calls Tryd.prog 13 #[.string (bs l)] w fun e w' => e = .returned (.bool (seenB l)) ∧ Below w.heap.size w w' := by
  have hsz := bs_size l
  go_enter Tryd.func13, Tryd.ntmps13
  go_wp2
  go_loopw [3] (fun v wr => ∃ k : Nat, k ≤ l.length ∧ v = .int .i64 (k : Int) ∧ (∀ j (hj : j < l.length), j < k → l[j] ≠ 126) ∧ Below w.heap.size w wr) (fun v _ => l.length - (intOf v).toNat)
  case atStart => exact ⟨0, by omega, rfl, fun j _ hj => absurd hj (by omega), Below.refl _ _⟩
  case round =>
    obtain ⟨k, hk, rfl, hno, hb⟩ := hrel
    by_cases hlt : k < l.length
    · have hbt := bt_bs l k hlt
      have hgb := get_bt (bs l)
      by_cases hx : l[k] = 126
      · have hq : (bt (bs l) k == (126 : Int)) = true := by rw [hbt, hx]; rfl
        have hc := cut_first hlt hno hx
        have hs := seen_cut hc
        have e1 : (bs l).extract 0 k = bs (l.take k) := ext_pre l k
        have e2 : (bs l).extract (k + 1) (bs l).size = bs (l.drop (k + 1)) := ext_end (bs l) (k + 1)
        have hbl : (l.drop (k + 1)).length ≤ 140737488351232 := by rw [List.length_drop]; omega
        have HS := Lib.hid hs
        have E1 := Lib.hid e1
        have E2 := Lib.hid e2
        clear hs hc e1 e2 hno hbt hx
        rw [hsz] at E2
        cases hp : M5.parseR (l.drop (k + 1))
        · have HP := Lib.hid hp
          clear hp
          go_wp2_with fail
          rw [E2.out]
          refine (refParse_not HP.out hbl wr).mono ?_
          rintro e w3 ⟨rfl, hb3⟩
          have hb := hb.trans (hb3.mono hb.size)
          clear hb3
          go_wp2
          go_ret
          rw [HS.out, HP.out]
          exact ⟨by rw [Bool.and_comm]; rfl, hb.alloc hb.size _⟩
        · rename_i x
          obtain ⟨t, r, i⟩ := x
          have HP := Lib.hid hp
          clear hp
          go_wp2_with fail
          rw [E2.out]
          refine (refParse_some HP.out hbl wr).mono ?_
          rintro e w3 ⟨rfl, hb3⟩
          have hb := hb.trans (hb3.mono hb.size)
          clear hb3
          have hb4 := hb.alloc hb.size (.cells #[.int .i64 t, .int .i64 r, .int .i64 i] 25)
          go_wp2_with fail
          rw [E1.out]
          refine (refName_any _ _).mono ?_
          rintro e w4 ⟨rfl, hb5⟩
          have hb := hb4.trans (hb5.mono hb4.size)
          clear hb5 hb4
          go_wp2
          go_ret
          rw [HS.out, HP.out]
          exact ⟨by rw [Bool.and_comm]; rfl, hb⟩
      · have hq : (bt (bs l) k == (126 : Int)) = false := by
          rw [hbt]
          simp only [beq_eq_false_iff_ne, ne_eq]
          intro h
          exact hx (UInt8.toNat_inj.1 (by rw [show (126 : UInt8).toNat = 126 from rfl]; omega))
        have hno1 : ∀ j (hj : j < l.length), j < k + 1 → l[j] ≠ 126 := fun j hj h => by
          by_cases h2 : j < k
          · exact hno j hj h2
          · obtain rfl : j = k := by omega
            exact hx
        clear hno hbt hx
        go_wp2
        go_roundw
        case rel => exact ⟨k + 1, by omega, by go_num, hno1, hb⟩
        case measure => simp [intOf]; omega
    · have hc : cutB 126 l = none := cut_never fun j hj => hno j hj (by omega)
      have hs := seen_name hc
      have HS := Lib.hid hs
      clear hs hc hno
      go_wp2_with fail
      refine (refName_any l wr).mono ?_
      rintro e w4 ⟨rfl, hb5⟩
      have hb := hb.trans (hb5.mono hb.size)
      go_wp2
      go_ret
      rw [HS.out]
      exact ⟨rfl, hb⟩

end Go.Proofs.YthecofkkacieaaaDoor.P7
