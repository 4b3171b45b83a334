/-
  Layer 8, walks of the program: numbers, lists, texts, stamps and ids taken from the head of bytes.
-/
import Derived.Test.YtphnimmhjnhajaaKW10h
namespace Go.Proofs.Ytphnimmhjnhajaa.W8
open Go.RowKit Go.PlainAid M8 V1
set_option linter.unusedVariables false

theorem take_rest (s : List UInt8) : (take s).2.1.length ≤ s.length := by
  rcases take_shape s with ⟨n, r, h, _, hr⟩ | ⟨e, h, _⟩
  · rw [h]; exact hr
  · rw [h]; simp
theorem takeBytes_rest (s : List UInt8) : (takeBytes s).2.1.length ≤ s.length := by
  have := take_rest s
  unfold takeBytes
  split
  · simp
  · split
    · simp
    · simp only [List.length_drop]; omega
theorem takeBytes_text (s : List UInt8) : (takeBytes s).1.length ≤ s.length := by
  have := take_rest s
  unfold takeBytes
  split
  · simp
  · split
    · simp
    · simp only [List.length_take]; omega
theorem takeMany_all : ∀ (k : Nat) (s : List UInt8) (acc : List Nat), (takeMany k s acc).2.1.length ≤ s.length ∧ (takeMany k s acc).1.length ≤ acc.length + k ∧ ((takeMany k s acc).2.2 ≠ 0 → (takeMany k s acc).1 = []) := by
  intro k
  induction k with
  | zero => intro s acc; exact ⟨Nat.le_refl _, Nat.le_refl _, fun h => absurd rfl h⟩
  | succ k ih =>
    intro s acc
    unfold takeMany
    split
    · exact ⟨by simp, by simp, fun _ => rfl⟩
    · obtain ⟨h1, h2, h3⟩ := ih (take s).2.1 (acc ++ [(take s).1])
      refine ⟨Nat.le_trans h1 (take_rest s), ?_, h3⟩
      rw [List.length_append] at h2
      simp only [List.length_cons, List.length_nil] at h2
      omega
theorem takeNats_all (s : List UInt8) : (takeNats s).2.1.length ≤ s.length ∧ (takeNats s).1.length ≤ s.length ∧ ((takeNats s).2.2 ≠ 0 → (takeNats s).1 = []) := by
  have h0 := take_rest s
  unfold takeNats
  split
  · exact ⟨by simp, by simp, fun _ => rfl⟩
  · split
    · exact ⟨by simp, by simp, fun _ => rfl⟩
    · obtain ⟨h1, h2, h3⟩ := takeMany_all (take s).1 (take s).2.1 []
      refine ⟨by omega, ?_, h3⟩
      simp only [List.length_nil] at h2
      omega
theorem takeNats_in (s : List UInt8) : ∀ n ∈ (takeNats s).1, n ≤ 9223372036854775807 := by
  by_cases h : (takeNats s).2.2 = 0
  · exact (takeNats_again s h).2
  · rw [(takeNats_all s).2.2 h]; simp
/-- A row of ours stays, whatever is read. -/
theorem own_only {w w' : World} {r B : Nat} {e : TypeId} {c : Nat} {v : Value} {n : Nat} {xs : List Value} (h : w.ownsRow B e c v n xs) (ho : Only r w w') (hr : r < B) : w'.ownsRow B e c v n xs := by
  refine ⟨h.1, ?_⟩
  rcases h.2 with h3 | ⟨g, cap, cur, hv, hg, hh, h5, h6, h7, h8⟩
  · exact .inl h3
  · exact .inr ⟨g, cap, cur, hv, hg, ho.box hh (by omega), h5, h6, h7, h8⟩

set_option maxRecDepth 100000 in
set_option maxHeartbeats 1000000 in
theorem rnat_any (r : Nat) (s : List UInt8) (bad : Bool) (hz : s.length ≤ 1000000) (w : World) (hr : Rdr w r s bad) : Calls Try.prog 26 #[.pointer (some ⟨r, 0, none⟩)] w fun e w' => ∃ (n : Int) (s' : List UInt8) (bad' : Bool), e = .returned (.int .i64 n) ∧ natD n ∧ Rdr w' r s' bad' ∧ RP pNat s bad n s' bad' ∧ Only r w w' := by
  have HR := Lib.hid hr
  have HZ := Lib.hid hz
  clear hr hz
  go_enter Try.func26, Try.ntmps26
  go_wp2_with fail
  refine (takeNat_any r s bad HZ.out _ HR.out).mono ?_
  rintro e w1 ⟨rfl, hr1, ho1⟩
  have HR1 := Lib.hid hr1
  have HO1 := Lib.hid ho1
  clear hr1 ho1
  go_wp2
  go_ret
  refine ⟨_, _, _, rfl, ⟨by omega, by have := take_lt s; omega⟩, HR1.out, RP.of (fun h => ?_) (fun h => ?_) (take_rest s), HO1.out⟩
  · unfold pNat; rw [if_pos h]
  · unfold pNat; rw [if_neg h]

set_option maxRecDepth 100000 in
set_option maxHeartbeats 1000000 in
theorem rtext_any (r : Nat) (s : List UInt8) (bad : Bool) (hz : s.length ≤ 1000000) (w : World) (hr : Rdr w r s bad) : Calls Try.prog 52 #[.pointer (some ⟨r, 0, none⟩)] w fun e w' => ∃ (t : List UInt8) (s' : List UInt8) (bad' : Bool), e = .returned (.string (bs t)) ∧ t.length ≤ s.length ∧ Rdr w' r s' bad' ∧ RP pText s bad t s' bad' ∧ Only r w w' := by
  have HR := Lib.hid hr
  have HZ := Lib.hid hz
  clear hr hz
  go_enter Try.func52, Try.ntmps52
  go_wp2_with fail
  refine (takeText_any r s bad HZ.out _ HR.out).mono ?_
  rintro e w1 ⟨rfl, hr1, ho1⟩
  have HR1 := Lib.hid hr1
  have HO1 := Lib.hid ho1
  clear hr1 ho1
  go_wp2
  go_ret
  refine ⟨_, _, _, rfl, takeBytes_text s, HR1.out, RP.of (fun h => ?_) (fun h => ?_) (takeBytes_rest s), HO1.out⟩
  · unfold pText; rw [if_pos h]
  · unfold pText; rw [if_neg h]

theorem flag_rp {s s' : Bytes} {bad b : Bool} {n : Int} (h : RP pNat s bad n s' b) : RP pFlag s bad (n == 1) s' (b || !decide (n ≤ 1)) := by
  refine ⟨fun hb => by rw [h.1 hb]; rfl, fun hb => ⟨fun a0 r0 hp => ?_, fun hp => ?_⟩, h.2.2⟩
  · unfold pFlag at hp
    cases hq : pNat s with
    | none => rw [hq] at hp; cases hp
    | some x =>
      obtain ⟨d, t⟩ := x
      rw [hq] at hp
      simp only at hp
      obtain ⟨rfl, rfl, h3⟩ := (h.2.1 hb).1 d t hq
      split at hp
      · rename_i hd
        injection hp with hp
        injection hp with h4 h5
        exact ⟨h4, h5, by rw [h3]; simpa using hd⟩
      · cases hp
  · unfold pFlag at hp
    cases hq : pNat s with
    | none => rw [(h.2.1 hb).2 hq]; rfl
    | some x =>
      obtain ⟨d, t⟩ := x
      rw [hq] at hp
      simp only at hp
      obtain ⟨rfl, rfl, h3⟩ := (h.2.1 hb).1 d t hq
      split at hp
      · cases hp
      · rename_i hd
        rw [h3]
        simpa using hd

set_option maxRecDepth 100000 in
set_option maxHeartbeats 1000000 in
theorem rflag_any (r : Nat) (s : List UInt8) (bad : Bool) (hz : s.length ≤ 1000000) (w : World) (hr : Rdr w r s bad) : Calls Try.prog 51 #[.pointer (some ⟨r, 0, none⟩)] w fun e w' => ∃ (v : Bool) (s' : List UInt8) (bad' : Bool), e = .returned (.bool v) ∧ Rdr w' r s' bad' ∧ RP pFlag s bad v s' bad' ∧ Only r w w' := by
  have HR := Lib.hid hr
  have HZ := Lib.hid hz
  clear hr hz
  go_enter Try.func51, Try.ntmps51
  go_wp2_with fail
  refine (rnat_any r s bad HZ.out _ HR.out).mono ?_
  rintro e w1 ⟨n, s1, b1, rfl, hn, hr1, hp, ho1⟩
  have HR1 := Lib.hid hr1
  have HO1 := Lib.hid ho1
  have HP := Lib.hid hp
  obtain ⟨ok, hok⟩ : ∃ ok, decide (n ≤ 1) = ok := ⟨_, rfl⟩
  clear hr1 ho1 hp hn
  go_wp2_with fail
  refine (hold_any r s1 b1 ok _ HR1.out).mono ?_
  rintro e w2 ⟨rfl, hr2, ho2⟩
  have HR2 := Lib.hid hr2
  have HO2 := Lib.hid (HO1.out.trans ho2)
  have HOK := Lib.hid hok
  clear hr2 ho2 hok
  go_wp2
  go_ret
  refine ⟨_, _, _, rfl, HR2.out, ?_, HO2.out⟩
  rw [← HOK.out]
  exact flag_rp HP.out

set_option maxRecDepth 100000 in
set_option maxHeartbeats 4000000 in
theorem takeNatsOne_any (r : Nat) (s : List UInt8) (bad : Bool) (hz : s.length ≤ 1000000) (w : World) (hr : Rdr w r s bad) : Calls Try.prog 46 #[.pointer (some ⟨r, 0, none⟩), .func (.func 47) #[] #[]] w fun e w' => ∃ v, e = .returned v ∧ w'.ownsRow w.heap.size 3 1 v (takeNats s).1.length (ints (takeNats s).1) ∧ Rdr w' r (takeNats s).2.1 (bad || !((takeNats s).2.2 == 0)) ∧ Only r w w' := by
  have HR := Lib.hid hr
  obtain ⟨c0, c1⟩ := hr.cells
  have hC := V1.takeNats_any (bs s) (by rw [bs_size]; omega) (.inr (by rw [bs_size]; omega)) w
  unfold TNPost at hC
  rw [show (bs s).data.toList = s from rfl] at hC
  have HLT := Lib.hid hr.lt
  obtain ⟨rs, hrs⟩ : ∃ rs, (takeNats s).2.1 = rs := ⟨_, rfl⟩
  obtain ⟨er, her⟩ : ∃ er, (takeNats s).2.2 = er := ⟨_, rfl⟩
  obtain ⟨x, hx⟩ : ∃ x, (takeNats s).1 = x := ⟨_, rfl⟩
  rw [hrs, her, hx] at hC ⊢
  obtain ⟨ok, hok⟩ : ∃ ok, (er == 0) = ok := ⟨_, rfl⟩
  rw [hok]
  have HC := Lib.hid hC
  clear hr c1 hC hrs her hx
  go_enter Try.func46, Try.ntmps46
  go_wp2_with fail
  refine HC.out.mono ?_
  rintro e w1 ⟨v, rfl, hown, hb1⟩
  have hr1 := HR.out.keep hb1
  have HO1 := Lib.hid (Only.of (r := r) hb1)
  have f0 := frozen_of_row w1 r 0 _ 56 hr1
  have hr2 : Rdr (w1.setCell ⟨r, 0, none⟩ (.string (bs rs))) r rs bad := heap_setCell_same w1 r 0 _ 56 (.string (bs rs)) hr1
  have HR2 := Lib.hid hr2
  have HS2 := Lib.hid (Only.set (r := r) w1 0 (.string (bs rs)))
  have HO2 := Lib.hid (HO1.out.trans HS2.out)
  have HW := Lib.hid (own_only hown HS2.out HLT.out)
  obtain ⟨e0, e1⟩ := hr1.cells
  clear hr1 hr2 hb1 c0 e1 hown
  go_wp2_with fail
  refine (hold_any r rs bad ok _ HR2.out).mono ?_
  rintro e w2 ⟨rfl, hr3, ho3⟩
  have HR3 := Lib.hid hr3
  have HW3 := Lib.hid (own_only HW.out ho3 HLT.out)
  have HO3 := Lib.hid (HO2.out.trans ho3)
  clear hr3 ho3 hok e0 f0
  go_wp2
  go_ret
  exact ⟨_, rfl, HW3.out, HR3.out, HO3.out⟩

set_option maxRecDepth 100000 in
set_option maxHeartbeats 1000000 in
theorem rnats_any (r : Nat) (s : List UInt8) (bad : Bool) (hz : s.length ≤ 1000000) (w : World) (hr : Rdr w r s bad) : Calls Try.prog 27 #[.pointer (some ⟨r, 0, none⟩)] w fun e w' => ∃ (v : Value) (l : List Int) (s' : List UInt8) (bad' : Bool), e = .returned v ∧ w'.ownsRow w.heap.size 3 1 v l.length (l.map (Value.int .i64)) ∧ (∀ z ∈ l, in64 z) ∧ l.length ≤ s.length ∧ Rdr w' r s' bad' ∧ RP pNats s bad l s' bad' ∧ Only r w w' := by
  have HR := Lib.hid hr
  have HZ := Lib.hid hz
  clear hr hz
  go_enter Try.func27, Try.ntmps27
  go_wp2_with fail
  refine (takeNatsOne_any r s bad HZ.out _ HR.out).mono ?_
  rintro e w1 ⟨v, rfl, hown, hr1, ho1⟩
  have HR1 := Lib.hid hr1
  have HO1 := Lib.hid ho1
  have HW := Lib.hid hown
  clear hr1 ho1 hown
  go_wp2
  go_ret
  refine ⟨v, (takeNats s).1.map (fun (n : Nat) => (n : Int)), _, _, rfl, ?_, ?_, ?_, HR1.out, RP.of (fun h => ?_) (fun h => ?_) (takeNats_all s).1, HO1.out⟩
  · have h := HW.out
    rw [List.length_map, List.map_map]
    exact h
  · intro z hz
    obtain ⟨n, hn, rfl⟩ := List.mem_map.1 hz
    have := takeNats_in s n hn
    constructor <;> omega
  · rw [List.length_map]; exact (takeNats_all s).2.1
  · unfold pNats; rw [if_pos h]
  · unfold pNats; rw [if_neg h]

set_option maxRecDepth 100000 in
set_option maxHeartbeats 4000000 in
theorem rstamp_any (r : Nat) (s : List UInt8) (bad : Bool) (hz : s.length ≤ 1000000) (w : World) (hr : Rdr w r s bad) : Calls Try.prog 25 #[.pointer (some ⟨r, 0, none⟩)] w fun e w' => ∃ (x : Int × Int) (s' : List UInt8) (bad' : Bool), e = .returned (.agg #[.int .i64 x.1, .int .i64 x.2]) ∧ stampD x ∧ Rdr w' r s' bad' ∧ RP pStamp s bad x s' bad' ∧ Only r w w' := by
  have HLT := Lib.hid hr.lt
  have HR := Lib.hid (hr.keep (below_box (.cells #[.int .i64 0, .int .i64 0] 23)))
  have HZ := Lib.hid hz
  have hT := Two.new w 23 0 0
  have HT := Lib.hid hT
  have hrne : w.heap.size ≠ r := by have := hr.lt; omega
  clear hr hz hT
  go_enter Try.func25, Try.ntmps25
  go_wp2_with fail
  refine (rnat_any r s bad HZ.out _ HR.out).mono ?_
  rintro e w1 ⟨t, s1, b1, rfl, ht, hr1, hp1, ho1⟩
  have HR1 := Lib.hid hr1
  have HD1 := Lib.hid ht
  have HP1 := Lib.hid hp1
  have HO1 := Lib.hid (((Only.refl r w).alloc (.cells #[.int .i64 0, .int .i64 0] 23)).trans ho1)
  have HT1 : Hid (Two w1 w.heap.size 23 0 0) := ho1.box HT.out hrne
  clear hr1 ht hp1 ho1
  go_wp2_with fail
  refine (rnat_any r s1 b1 (Nat.le_trans HP1.out.2.2 HZ.out) _ HR1.out).mono ?_
  rintro e w2 ⟨q, s2, b2, rfl, hq, hr2, hp2, ho2⟩
  have HR2 := Lib.hid hr2
  have HD2 := Lib.hid hq
  have HP2 := Lib.hid hp2
  have HO2 := Lib.hid (HO1.out.trans ho2)
  have hT2 : Two w2 w.heap.size 23 0 0 := ho2.box HT1.out hrne
  obtain ⟨c0, c1⟩ := hT2.cells
  have f0 := frozen_of_row w2 w.heap.size 0 _ 23 hT2
  have f1 := frozen_of_row w2 w.heap.size 1 _ 23 hT2
  have hs1 := heap_setCell_same w2 w.heap.size 0 _ 23 (.int .i64 t) hT2
  have hs2 := heap_setCell_same (w2.setCell ⟨w.heap.size, 0, none⟩ (.int .i64 t)) w.heap.size 1 _ 23 (.int .i64 q) hs1
  have g0 : ((w2.setCell ⟨w.heap.size, 0, none⟩ (.int .i64 t)).setCell ⟨w.heap.size, 1, none⟩ (.int .i64 q)).cell? ⟨w.heap.size, 0, none⟩ = some (.int .i64 t) := by rw [cell_of_row _ _ 0 _ _ _ hs2]; rfl
  have g1 : ((w2.setCell ⟨w.heap.size, 0, none⟩ (.int .i64 t)).setCell ⟨w.heap.size, 1, none⟩ (.int .i64 q)).cell? ⟨w.heap.size, 1, none⟩ = some (.int .i64 q) := by rw [cell_of_row _ _ 1 _ _ _ hs2]; rfl
  have hrr : Rdr ((w2.setCell ⟨w.heap.size, 0, none⟩ (.int .i64 t)).setCell ⟨w.heap.size, 1, none⟩ (.int .i64 q)) r s2 b2 := by
    unfold Rdr
    rw [heap_setCell_other _ ⟨w.heap.size, 1, none⟩ r _ (Ne.symm hrne), heap_setCell_other _ ⟨w.heap.size, 0, none⟩ r _ (Ne.symm hrne)]
    exact HR2.out
  have hoo : Only r w ((w2.setCell ⟨w.heap.size, 0, none⟩ (.int .i64 t)).setCell ⟨w.heap.size, 1, none⟩ (.int .i64 q)) := by
    have ho := HO2.out
    refine ⟨ho.os, ho.tape, ho.output, by simpa [World.setCell] using ho.size, fun c h1 h2 => ?_⟩
    rw [heap_setCell_other _ ⟨w.heap.size, 1, none⟩ c _ (by show c ≠ w.heap.size; omega), heap_setCell_other _ ⟨w.heap.size, 0, none⟩ c _ (by show c ≠ w.heap.size; omega)]
    exact ho.kept c h1 h2
  have HRR := Lib.hid hrr
  have HOO := Lib.hid hoo
  clear hr2 hq hp2 ho2 hT2 hs1 hs2 hrr hoo
  go_wp2
  exact bodyPost_ret (v := .agg #[.int .i64 t, .int .i64 q]) (by simp [results, Try.results25, go_sem, g0, g1]) rfl ⟨(t, q), s2, b2, rfl, ⟨HD1.out, HD2.out⟩, HRR.out, HP1.out.pair HP2.out, HOO.out⟩

theorem id_rp {s s1 s2 : Bytes} {b b1 b2 : Bool} {x : Int × Int} {q : Int} (h : RP pStamp s b x s1 b1) (k : RP pNat s1 b1 q s2 b2) : RP pId s b (x.1, x.2, q) s2 b2 := by
  have h2 := (h.pair k).map (fun (y : (Int × Int) × Int) => ((y.1.1, y.1.2, y.2) : Id3))
  have he : pMap (fun (y : (Int × Int) × Int) => ((y.1.1, y.1.2, y.2) : Id3)) (pPair pStamp pNat) = pId := by
    funext t
    unfold pId pStamp pPair pBind pMap
    cases h1 : pNat t with
    | none => simp [h1]
    | some y =>
      obtain ⟨a, t1⟩ := y
      cases h2 : pNat t1 with
      | none => simp [h1, h2]
      | some y =>
        obtain ⟨a2, t2⟩ := y
        cases h3 : pNat t2 with
        | none => simp [h1, h2, h3]
        | some y => simp [h1, h2, h3]
  rw [he] at h2
  exact h2

set_option maxRecDepth 100000 in
set_option maxHeartbeats 4000000 in
theorem rid_any (r : Nat) (s : List UInt8) (bad : Bool) (hz : s.length ≤ 1000000) (w : World) (hr : Rdr w r s bad) : Calls Try.prog 49 #[.pointer (some ⟨r, 0, none⟩)] w fun e w' => ∃ (x : Id3) (s' : List UInt8) (bad' : Bool), e = .returned (.agg #[.int .i64 x.1, .int .i64 x.2.1, .int .i64 x.2.2]) ∧ idD x ∧ Rdr w' r s' bad' ∧ RP pId s bad x s' bad' ∧ Only r w w' := by
  have HR := Lib.hid (hr.keep (below_box (.cells #[.int .i64 0, .int .i64 0, .int .i64 0] 40)))
  have HZ := Lib.hid hz
  have hT := Tri.new w 40 0 0 0
  have HT := Lib.hid hT
  have hrne : w.heap.size ≠ r := by have := hr.lt; omega
  clear hr hz hT
  go_enter Try.func49, Try.ntmps49
  go_wp2_with fail
  refine (rstamp_any r s bad HZ.out _ HR.out).mono ?_
  rintro e w1 ⟨x, s1, b1, rfl, ht, hr1, hp1, ho1⟩
  have HR1 := Lib.hid hr1
  have HD1 := Lib.hid ht
  have HP1 := Lib.hid hp1
  have HO1 := Lib.hid (((Only.refl r w).alloc (.cells #[.int .i64 0, .int .i64 0, .int .i64 0] 40)).trans ho1)
  have HT1 : Hid (Tri w1 w.heap.size 40 0 0 0) := ho1.box HT.out hrne
  clear hr1 ht hp1 ho1
  go_wp2_with fail
  refine (rnat_any r s1 b1 (Nat.le_trans HP1.out.2.2 HZ.out) _ HR1.out).mono ?_
  rintro e w2 ⟨q, s2, b2, rfl, hq, hr2, hp2, ho2⟩
  have HR2 := Lib.hid hr2
  have HD2 := Lib.hid hq
  have HP2 := Lib.hid hp2
  have HO2 := Lib.hid (HO1.out.trans ho2)
  have hT2 : Tri w2 w.heap.size 40 0 0 0 := ho2.box HT1.out hrne
  obtain ⟨c0, c1, c2⟩ := hT2.cells
  have f0 := frozen_of_row w2 w.heap.size 0 _ 40 hT2
  have f1 := frozen_of_row w2 w.heap.size 1 _ 40 hT2
  have f2 := frozen_of_row w2 w.heap.size 2 _ 40 hT2
  have hs1 := heap_setCell_same w2 w.heap.size 0 _ 40 (.int .i64 x.1) hT2
  have hs2 := heap_setCell_same (w2.setCell ⟨w.heap.size, 0, none⟩ (.int .i64 x.1)) w.heap.size 1 _ 40 (.int .i64 x.2) hs1
  have hs3 := heap_setCell_same ((w2.setCell ⟨w.heap.size, 0, none⟩ (.int .i64 x.1)).setCell ⟨w.heap.size, 1, none⟩ (.int .i64 x.2)) w.heap.size 2 _ 40 (.int .i64 q) hs2
  have g0 : (((w2.setCell ⟨w.heap.size, 0, none⟩ (.int .i64 x.1)).setCell ⟨w.heap.size, 1, none⟩ (.int .i64 x.2)).setCell ⟨w.heap.size, 2, none⟩ (.int .i64 q)).cell? ⟨w.heap.size, 0, none⟩ = some (.int .i64 x.1) := by rw [cell_of_row _ _ 0 _ _ _ hs3]; rfl
  have g1 : (((w2.setCell ⟨w.heap.size, 0, none⟩ (.int .i64 x.1)).setCell ⟨w.heap.size, 1, none⟩ (.int .i64 x.2)).setCell ⟨w.heap.size, 2, none⟩ (.int .i64 q)).cell? ⟨w.heap.size, 1, none⟩ = some (.int .i64 x.2) := by rw [cell_of_row _ _ 1 _ _ _ hs3]; rfl
  have g2 : (((w2.setCell ⟨w.heap.size, 0, none⟩ (.int .i64 x.1)).setCell ⟨w.heap.size, 1, none⟩ (.int .i64 x.2)).setCell ⟨w.heap.size, 2, none⟩ (.int .i64 q)).cell? ⟨w.heap.size, 2, none⟩ = some (.int .i64 q) := by rw [cell_of_row _ _ 2 _ _ _ hs3]; rfl
  have hrr : Rdr (((w2.setCell ⟨w.heap.size, 0, none⟩ (.int .i64 x.1)).setCell ⟨w.heap.size, 1, none⟩ (.int .i64 x.2)).setCell ⟨w.heap.size, 2, none⟩ (.int .i64 q)) r s2 b2 := by
    unfold Rdr
    rw [heap_setCell_other _ ⟨w.heap.size, 2, none⟩ r _ (Ne.symm hrne), heap_setCell_other _ ⟨w.heap.size, 1, none⟩ r _ (Ne.symm hrne), heap_setCell_other _ ⟨w.heap.size, 0, none⟩ r _ (Ne.symm hrne)]
    exact HR2.out
  have hoo : Only r w (((w2.setCell ⟨w.heap.size, 0, none⟩ (.int .i64 x.1)).setCell ⟨w.heap.size, 1, none⟩ (.int .i64 x.2)).setCell ⟨w.heap.size, 2, none⟩ (.int .i64 q)) := by
    have ho := HO2.out
    refine ⟨ho.os, ho.tape, ho.output, by simpa [World.setCell] using ho.size, fun c h1 h2 => ?_⟩
    rw [heap_setCell_other _ ⟨w.heap.size, 2, none⟩ c _ (by show c ≠ w.heap.size; omega), heap_setCell_other _ ⟨w.heap.size, 1, none⟩ c _ (by show c ≠ w.heap.size; omega), heap_setCell_other _ ⟨w.heap.size, 0, none⟩ c _ (by show c ≠ w.heap.size; omega)]
    exact ho.kept c h1 h2
  have HRR := Lib.hid hrr
  have HOO := Lib.hid hoo
  clear hr2 hq hp2 ho2 hT2 hs1 hs2 hs3 hrr hoo
  go_wp2
  exact bodyPost_ret (v := .agg #[.int .i64 x.1, .int .i64 x.2, .int .i64 q]) (by simp [results, Try.results49, go_sem, g0, g1, g2]) rfl ⟨(x.1, x.2, q), s2, b2, rfl, ⟨HD1.out.1, HD1.out.2, HD2.out⟩, HRR.out, id_rp HP1.out HP2.out, HOO.out⟩

end Go.Proofs.Ytphnimmhjnhajaa.W8

