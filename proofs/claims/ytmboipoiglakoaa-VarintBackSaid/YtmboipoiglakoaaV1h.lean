/-
  Layer 1: the laws of lists, and the stage's theorems.
-/
import Derived.Test.YtmboipoiglakoaaV1g
namespace Go.Proofs.Ytmboipoiglakoaa.V1
open Go.RowKit Go.PlainAid

theorem wf_i64 {z : Int} (h : (Lit.int .i64 z).wf = true) : -9223372036854775808 ≤ z ∧ z ≤ 9223372036854775807 := by
  simpa [Lit.wf, IntKind.min, IntKind.max, IntKind.signed, IntKind.bits] using h

theorem ints_eq (l : List Nat) : ints l = (l.map fun (n : Nat) => (n : Int)).map (Value.int .i64) := by simp [ints]

theorem same_own {w w' : World} {A B : Option Addr} {c d n : Nat} {l : List Nat} (ha : Rd w A (ints l)) (hb : Rd w B (ints l)) (hn : l.length = n) (hle : n ≤ 1000000) (h : Below w.heap.size w w') :
    Calls Try.prog 27 #[.slice A n c, .slice B n d] w' fun e w'' => e = .returned (.bool true) ∧ Below w'.heap.size w' w'' := by
  rw [ints_eq] at ha hb
  exact same_any A B n c d _ w' (ha.keep h) (hb.keep h) (by simpa using hn) hle

theorem takeNats_len (s : List UInt8) : (takeNats s).1.length ≤ s.length := by
  by_cases h : (takeNats s).2.2 = 0
  · have := (takeNats_again s h).1
    have h2 : s.length = (listB (takeNats s).1 ++ (takeNats s).2.1).length := congrArg List.length this
    have h3 := flat_len (takeNats s).1
    simp only [listB, List.length_append] at h2
    omega
  · have : (takeNats s).1 = [] := by
      unfold takeNats at h ⊢
      by_cases h1 : (take s).2.2 ≠ 0
      · rw [if_pos h1]
      · rw [if_neg h1] at h ⊢
        by_cases h2 : (take s).2.1.length < (take s).1
        · rw [if_pos h2]
        · rw [if_neg h2] at h ⊢
          have bad : ∀ (k : Nat) (r : List UInt8) (acc : List Nat), (takeMany k r acc).2.2 ≠ 0 → (takeMany k r acc).1 = [] := by
            intro k
            induction k with
            | zero => intro r acc hh; simp [takeMany] at hh
            | succ k ih =>
              intro r acc hh
              unfold takeMany at hh ⊢
              by_cases h4 : (take r).2.2 ≠ 0
              · rw [if_pos h4]
              · rw [if_neg h4] at hh ⊢; exact ih _ _ hh
          exact bad _ _ _ h
    rw [this]; simp

set_option maxRecDepth 100000 in
set_option maxHeartbeats 1000000 in
theorem lawLists (w : World) (a : Option Addr) (len cap : Nat) (zs : List Int) (hrow : IsRow .i64 w a len cap zs) (hy : cap * 8 ≤ 140737488351232) (s : ByteArray) (hz : s.size ≤ 140737488351232) :
    Calls Try.prog 6 #[.slice a len cap, .string s] w fun e w' => e = .returned (.bool true) ∧ Below w.heap.size w w' := by
  obtain ⟨hr, hl, hw⟩ := Rd.of_row hrow
  have hlc : len ≤ 9223372036854775807 := by
    rcases hrow with ⟨_, h, _⟩ | ⟨_, _, h, _⟩ <;> omega
  have hz2 : ∀ z ∈ zs.take len, z ≤ 9223372036854775807 := fun z hz => (wf_i64 (hw z hz)).2
  generalize zs.take len = l at hr hl hw hz2
  clear hrow hw
  by_cases hbig : 1000 < len
  · go_enter Try.func6, Try.ntmps6
    go_wp2_with fail
    refine (awake_any _).mono ?_
    rintro e w1 ⟨rfl, hb1⟩
    go_wp2
    go_ret
    exact ⟨rfl, hb1⟩
  · by_cases hbig2 : 10000 < s.size
    · go_enter Try.func6, Try.ntmps6
      go_wp2_with fail
      refine (awake_any _).mono ?_
      rintro e w1 ⟨rfl, hb1⟩
      go_wp2
      go_ret
      exact ⟨rfl, hb1⟩
    · have HR := Lib.hid hr
      have HL := Lib.hid hl
      have HZ := Lib.hid hz2
      have HTL := Lib.hid (takeNats_len s.data.toList)
      clear hr hl hz2
      go_enter Try.func6, Try.ntmps6
      go_wp2_with fail
      refine (nats_any a len cap l _ HR.out HL.out (by omega) HZ.out).mono ?_
      rintro e w1 ⟨rfl, hb1⟩
      go_wp2_with fail
      refine (refNats_any a len cap l _ (HR.out.keep hb1) HL.out (by omega) HZ.out).mono ?_
      rintro e w2 ⟨rfl, hb2⟩
      go_wp2_with fail
      refine (takeNats_any s (by omega) (.inr (by omega)) _).mono ?_
      rintro e w3 ⟨v3, rfl, ho3, hb3⟩
      obtain ⟨A3, c3, rfl, hr3, hl3⟩ := Rd.of_own ho3
      have HR3 := Lib.hid hr3
      clear ho3 hr3 hl3
      go_wp2_with fail
      refine (refTakeNats_any s (by omega) (.inr (by omega)) _).mono ?_
      rintro e w4 ⟨v4, rfl, ho4, hb4⟩
      obtain ⟨A4, c4, rfl, hr4, hl4⟩ := Rd.of_own ho4
      have HR4 := Lib.hid hr4
      clear ho4 hr4 hl4
      go_wp2_with fail
      refine (awake_any _).mono ?_
      rintro e w5 ⟨rfl, hb5⟩
      go_wp2_with fail
      refine (same_own (HR3.out.keep hb4) HR4.out rfl (by have := HTL.out; have e1 : s.data.toList.length = s.size := rfl; omega) hb5).mono ?_
      rintro e w6 ⟨rfl, hb6⟩
      have s1 := hb1.size
      have s2 := hb2.size
      have s3 := hb3.size
      have s4 := hb4.size
      have s5 := hb5.size
      go_wp2
      go_ret
      exact ⟨by simp, ((((hb1.trans (hb2.mono (by omega))).trans (hb3.mono (by omega))).trans (hb4.mono (by omega))).trans (hb5.mono (by omega))).trans (hb6.mono (by omega))⟩

/-! ### VarintAgain -/
theorem int_as {n : Int} {l : List UInt8} {x : Int} (h : intR n = (l, x)) (h1 : -9223372036854775808 ≤ n) (hn : n ≤ 9223372036854775807) (w : World) :
    Calls Try.prog 15 #[.int .i64 n] w fun e w' => e = .returned (.tuple #[.string (bs l), .int .i64 x]) ∧ Below w.heap.size w w' := by
  have := int_any n h1 hn w
  rw [h] at this
  exact this
theorem takeInt_as {s : ByteArray} {n : Int} {r : List UInt8} {e : Int} (h : takeInt s.data.toList = (n, r, e)) (hs : s.size ≤ 9223372036854775807) (w : World) :
    Calls Try.prog 17 #[.string s] w fun x w' => x = .returned (.tuple #[.int .i64 n, .string (bs r), .int .i64 e]) ∧ Below w.heap.size w w' := by
  have := takeInt_any s hs w
  rw [h] at this
  exact this
theorem takeNats_as {s : ByteArray} {l : List Nat} {r : List UInt8} {x : Int} (h : takeNats s.data.toList = (l, r, x)) (hs : s.size ≤ 9223372036854775807) (hc : (take s.data.toList).1 ≤ 1000000 ∨ s.size ≤ 1000000) (w : World) :
    Calls Try.prog 25 #[.string s] w fun e w' => ∃ A c, e = .returned (.tuple #[.slice A l.length c, .string (bs r), .int .i64 x]) ∧ Rd w' A (ints l) ∧ Below w.heap.size w w' := by
  refine (takeNats_any s hs hc w).mono ?_
  rintro e w' ⟨v, rfl, ho, hb⟩
  rw [h] at ho ⊢
  obtain ⟨A, c, rfl, hr, _⟩ := Rd.of_own ho
  exact ⟨A, c, rfl, hr, hb⟩

theorem bs_join (a b : List UInt8) : bs a ++ bs b = bs (a ++ b) := bs_append a (bs b)

theorem shape3 {α β : Type} (t : α × β × Int) : t = (t.1, t.2.1, t.2.2) := rfl

theorem takeInt_ok {l : List UInt8} {n : Nat} {r : List UInt8} (h : take l = (n, r, 0)) : takeInt l = (zag n, r, 0) := by unfold takeInt; rw [h]
theorem takeInt_bad {l : List UInt8} {e : Int} (h : take l = (0, [], e)) : takeInt l = (0, [], e) := by unfold takeInt; rw [h]; simp [zag]
theorem takeBytes_bad {l : List UInt8} {e : Int} (h : take l = (0, [], e)) (he : e = 10 ∨ e = 11) : takeBytes l = ([], [], e) := by
  unfold takeBytes; rw [h]; rw [if_pos (by simp; omega)]
theorem takeNats_bad {l : List UInt8} {e : Int} (h : take l = (0, [], e)) (he : e = 10 ∨ e = 11) : takeNats l = ([], [], e) := by
  unfold takeNats; rw [h]; rw [if_pos (by simp; omega)]
theorem intR_zag {n : Nat} (hn : n ≤ 9223372036854775807) : intR (zag n) = (natB n, 0) := by
  unfold intR
  rw [zig_zag, if_neg]
  unfold zag
  split <;> omega
theorem zag_in {n : Nat} (hn : n ≤ 9223372036854775807) : -4611686018427387904 ≤ zag n ∧ zag n ≤ 4611686018427387903 := by
  unfold zag
  split <;> omega
theorem natsR_nat (l : List Nat) : natsR (l.map fun (n : Nat) => (n : Int)) = (listB l, 0) := by
  unfold natsR
  rw [if_pos (by simp)]
  have e : (l.map fun (n : Nat) => (n : Int)).map Int.toNat = l := by
    induction l with
    | nil => rfl
    | cons a l ih => simp only [List.map_cons, ih]; simp
  rw [e]
theorem nats_own {w w' : World} {A : Option Addr} {c n : Nat} {l : List Nat} (ha : Rd w A (ints l)) (hn : l.length = n) (hle : n ≤ 1000000) (hz : ∀ k ∈ l, k ≤ 9223372036854775807) (h : Below w.heap.size w w') :
    Calls Try.prog 23 #[.slice A n c] w' fun e w'' => e = .returned (.tuple #[.string (bs (listB l)), .int .i64 0]) ∧ Below w'.heap.size w' w'' := by
  rw [ints_eq] at ha
  have := nats_any A n c _ w' (ha.keep h) (by simpa using hn) hle (fun z hz2 => by
    obtain ⟨k, hk, rfl⟩ := List.mem_map.1 hz2
    have := hz k hk
    omega)
  rw [natsR_nat] at this
  exact this

theorem takeNats_end (l : List UInt8) : (takeNats l).2.2 = 0 ∨ takeNats l = ([], [], 10) ∨ takeNats l = ([], [], 11) := by
  have many : ∀ (k : Nat) (r : List UInt8) (acc : List Nat), (takeMany k r acc).2.2 = 0 ∨ takeMany k r acc = ([], [], 10) ∨ takeMany k r acc = ([], [], 11) := by
    intro k
    induction k with
    | zero => intro r acc; left; simp [takeMany]
    | succ k ih =>
      intro r acc
      unfold takeMany
      rcases take_shape r with ⟨n, r2, h, _, _⟩ | ⟨e, h, he⟩
      · rw [h]; simp only [ne_eq, not_true_eq_false, if_false]; exact ih _ _
      · rw [h, if_pos (by simp; omega)]
        right
        rcases he with rfl | rfl <;> simp
  unfold takeNats
  rcases take_shape l with ⟨n, r2, h, _, _⟩ | ⟨e, h, he⟩
  · rw [h]; simp only [ne_eq, not_true_eq_false, if_false]
    by_cases h2 : r2.length < n
    · rw [if_pos h2]; simp
    · rw [if_neg h2]; exact many _ _ _
  · rw [h, if_pos (by simp; omega)]
    right
    rcases he with rfl | rfl <;> simp
theorem takeBytes_end (l : List UInt8) : (takeBytes l).2.2 = 0 ∨ takeBytes l = ([], [], 10) ∨ takeBytes l = ([], [], 11) := by
  unfold takeBytes
  rcases take_shape l with ⟨n, r2, h, _, _⟩ | ⟨e, h, he⟩
  · rw [h]; simp only [ne_eq, not_true_eq_false, if_false]
    by_cases h2 : r2.length < n
    · rw [if_pos h2]; simp
    · rw [if_neg h2]; simp
  · rw [h, if_pos (by simp; omega)]
    right
    rcases he with rfl | rfl <;> simp

/-- The half of VarintAgain that speaks of texts and of lists, in each of its ways. -/
theorem tail_bytes (s : List UInt8) : (∃ e : Int, takeBytes s = ([], [], e) ∧ (e == 0) = false) ∨ ∃ t r, takeBytes s = (t, r, 0) ∧ bs (bytesB t) ++ bs r = bs s ∧ t.length ≤ s.length ∧ r.length ≤ s.length := by
  rcases takeBytes_end s with h | h | h
  · right
    have e := takeBytes_again s h
    have hl : s.length = (bytesB (takeBytes s).1 ++ (takeBytes s).2.1).length := congrArg List.length e
    refine ⟨(takeBytes s).1, (takeBytes s).2.1, by rw [← h], by rw [bs_join, ← e], ?_, ?_⟩
    · simp only [bytesB, List.length_append] at hl; omega
    · simp only [bytesB, List.length_append] at hl; omega
  · exact .inl ⟨10, h, rfl⟩
  · exact .inl ⟨11, h, rfl⟩
theorem tail_nats (s : List UInt8) : (∃ e : Int, takeNats s = ([], [], e) ∧ (e == 0) = false) ∨ ∃ l r, takeNats s = (l, r, 0) ∧ bs (listB l) ++ bs r = bs s ∧ l.length ≤ s.length ∧ (listB l).length ≤ s.length ∧ r.length ≤ s.length ∧ ∀ n ∈ l, n ≤ 9223372036854775807 := by
  rcases takeNats_end s with h | h | h
  · right
    obtain ⟨e, h2⟩ := takeNats_again s h
    have hl : s.length = (listB (takeNats s).1 ++ (takeNats s).2.1).length := congrArg List.length e
    have h3 := flat_len (takeNats s).1
    refine ⟨(takeNats s).1, (takeNats s).2.1, by rw [← h], by rw [bs_join, ← e], ?_, ?_, ?_, h2⟩
    all_goals simp only [listB, List.length_append] at hl ⊢; omega
  · exact .inl ⟨10, h, rfl⟩
  · exact .inl ⟨11, h, rfl⟩


theorem take_all (s : List UInt8) : (∃ e : Int, take s = (0, [], e) ∧ (e = 10 ∨ e = 11)) ∨ ∃ n r, take s = (n, r, 0) ∧ bs (natB n) ++ bs r = bs s ∧ n ≤ 9223372036854775807 ∧ r.length ≤ s.length := by
  rcases take_shape s with ⟨n, r, h, hn, hr⟩ | h
  · right
    have e := (take_again s (by rw [h])).1
    rw [h] at e
    exact ⟨n, r, h, by rw [bs_join, ← e], hn, hr⟩
  · exact .inl h

set_option maxRecDepth 100000 in
set_option maxHeartbeats 2000000 in
theorem lawAgain (w : World) (s : ByteArray) (hz : s.size ≤ 140737488351232) :
    Calls Try.prog 8 #[.string s] w fun e w' => e = .returned (.bool true) ∧ Below w.heap.size w w' := by
  have hl0 : s.data.toList.length = s.size := rfl
  by_cases hbig : 10000 < s.size
  · go_enter Try.func8, Try.ntmps8
    go_wp2_with fail
    refine (awake_any _).mono ?_
    rintro e w1 ⟨rfl, hb1⟩
    go_wp2
    go_ret
    exact ⟨rfl, hb1⟩
  · rcases take_all s.data.toList with ⟨er, ht, her⟩ | ⟨n, r, ht, hj, hn, hr⟩
    · have HT := Lib.hid ht
      have HI := Lib.hid (takeInt_bad ht)
      have HY := Lib.hid (takeBytes_bad ht her)
      have HN := Lib.hid (takeNats_bad ht her)
      have hne : (er == 0) = false := by rcases her with rfl | rfl <;> rfl
      clear ht her
      go_enter Try.func8, Try.ntmps8
      go_wp2_with fail
      refine (awake_any _).mono ?_
      rintro e w1 ⟨rfl, hb1⟩
      go_wp2_with fail
      refine (take_as HT.out (by omega) _).mono ?_
      rintro e w2 ⟨rfl, hb2⟩
      go_wp2_with fail
      refine (takeInt_as HI.out (by omega) _).mono ?_
      rintro e w3 ⟨rfl, hb3⟩
      go_wp2_with fail
      refine (takeBytes_as HY.out (by omega) _).mono ?_
      rintro e w4 ⟨rfl, hb4⟩
      go_wp2_with fail
      refine (takeNats_as HN.out (by omega) (.inr (by omega)) _).mono ?_
      rintro e w5 ⟨A, c, rfl, _, hb5⟩
      have s1 := hb1.size
      have s2 := hb2.size
      have s3 := hb3.size
      have s4 := hb4.size
      go_wp2
      go_ret
      exact ⟨rfl, (((hb1.trans (hb2.mono (by omega))).trans (hb3.mono (by omega))).trans (hb4.mono (by omega))).trans (hb5.mono (by omega))⟩
    · have HT := Lib.hid ht
      have HI := Lib.hid (takeInt_ok ht)
      have HNR := Lib.hid (natR_nat n)
      have HIR := Lib.hid (intR_zag hn)
      obtain ⟨z1, z2⟩ := zag_in hn
      have hrs : (bs r).size ≤ 10000 := by rw [bs_size]; omega
      have hns : (bs (natB n)).size ≤ 9 := natB_len9 hn
      have hj' : ((bs (natB n) ++ bs r).toList == s.toList) = true := by rw [hj, bs_of]; simp
      clear ht hj
      rcases tail_bytes s.data.toList with ⟨e1, hy, hy0⟩ | ⟨t, r1, hy, hyj, hyl, hyr⟩
      · rcases tail_nats s.data.toList with ⟨e2, hm, hm0⟩ | ⟨l, r2, hm, hmj, hml, hmb, hmr, hmz⟩
        · have HY := Lib.hid hy
          have HM := Lib.hid hm
          clear hy hm
          go_enter Try.func8, Try.ntmps8
          go_wp2_with fail
          refine (awake_any _).mono ?_
          rintro e w1 ⟨rfl, h1⟩
          have g1 : Below w.heap.size w w1 := h1
          go_wp2_with fail
          refine (take_as HT.out (by omega) _).mono ?_
          rintro e w2 ⟨rfl, h2⟩
          have g2 : Below w.heap.size w w2 := g1.trans (h2.mono g1.size)
          go_wp2_with fail
          refine (nat_as HNR.out (by omega) _).mono ?_
          rintro e w3 ⟨rfl, h3⟩
          have g3 : Below w.heap.size w w3 := g2.trans (h3.mono g2.size)
          go_wp2_with fail
          refine (takeInt_as HI.out (by omega) _).mono ?_
          rintro e w4 ⟨rfl, h4⟩
          have g4 : Below w.heap.size w w4 := g3.trans (h4.mono g3.size)
          go_wp2_with fail
          refine (int_as HIR.out (by omega) (by omega) _).mono ?_
          rintro e w5 ⟨rfl, h5⟩
          have g5 : Below w.heap.size w w5 := g4.trans (h5.mono g4.size)
          go_wp2_with fail
          refine (takeBytes_as HY.out (by omega) _).mono ?_
          rintro e w6 ⟨rfl, h6⟩
          have g6 : Below w.heap.size w w6 := g5.trans (h6.mono g5.size)
          go_wp2_with fail
          refine (takeNats_as HM.out (by omega) (.inr (by omega)) _).mono ?_
          rintro e w7 ⟨A, c, rfl, hrd, h7⟩
          have g7 : Below w.heap.size w w7 := g6.trans (h7.mono g6.size)
          go_wp2
          go_ret
          exact ⟨rfl, g7⟩
        · have hr2s : (bs r2).size ≤ 10000 := by rw [bs_size]; omega
          have hls : (bs (listB l)).size ≤ 10000 := by rw [bs_size]; omega
          have hmj' : ((bs (listB l) ++ bs r2).toList == s.toList) = true := by rw [hmj, bs_of]; simp
          have HMZ := Lib.hid hmz
          have hll : l.length ≤ 1000000 := by omega
          clear hmj hmz
          have HY := Lib.hid hy
          have HM := Lib.hid hm
          clear hy hm
          go_enter Try.func8, Try.ntmps8
          go_wp2_with fail
          refine (awake_any _).mono ?_
          rintro e w1 ⟨rfl, h1⟩
          have g1 : Below w.heap.size w w1 := h1
          go_wp2_with fail
          refine (take_as HT.out (by omega) _).mono ?_
          rintro e w2 ⟨rfl, h2⟩
          have g2 : Below w.heap.size w w2 := g1.trans (h2.mono g1.size)
          go_wp2_with fail
          refine (nat_as HNR.out (by omega) _).mono ?_
          rintro e w3 ⟨rfl, h3⟩
          have g3 : Below w.heap.size w w3 := g2.trans (h3.mono g2.size)
          go_wp2_with fail
          refine (takeInt_as HI.out (by omega) _).mono ?_
          rintro e w4 ⟨rfl, h4⟩
          have g4 : Below w.heap.size w w4 := g3.trans (h4.mono g3.size)
          go_wp2_with fail
          refine (int_as HIR.out (by omega) (by omega) _).mono ?_
          rintro e w5 ⟨rfl, h5⟩
          have g5 : Below w.heap.size w w5 := g4.trans (h5.mono g4.size)
          go_wp2_with fail
          refine (takeBytes_as HY.out (by omega) _).mono ?_
          rintro e w6 ⟨rfl, h6⟩
          have g6 : Below w.heap.size w w6 := g5.trans (h6.mono g5.size)
          go_wp2_with fail
          refine (takeNats_as HM.out (by omega) (.inr (by omega)) _).mono ?_
          rintro e w7 ⟨A, c, rfl, hrd, h7⟩
          have g7 : Below w.heap.size w w7 := g6.trans (h7.mono g6.size)
          have HRD := Lib.hid hrd
          clear hrd
          go_wp2_with fail
          refine (nats_own HRD.out rfl hll HMZ.out (Below.refl _ _)).mono ?_
          rintro e w8 ⟨rfl, h8⟩
          have g8 : Below w.heap.size w w8 := g7.trans (h8.mono g7.size)
          go_wp2
          go_ret
          exact ⟨rfl, g8⟩
      · rcases tail_nats s.data.toList with ⟨e2, hm, hm0⟩ | ⟨l, r2, hm, hmj, hml, hmb, hmr, hmz⟩
        · have hr1s : (bs r1).size ≤ 10000 := by rw [bs_size]; omega
          have hts : (bs t).size ≤ 10000 := by rw [bs_size]; omega
          have hbs : (bs (bytesB t)).size ≤ 10009 := by rw [bs_size]; unfold bytesB; have := natB_len9 (n := t.length) (by omega); simp only [List.length_append]; omega
          have hyj' : ((bs (bytesB t) ++ bs r1).toList == s.toList) = true := by rw [hyj, bs_of]; simp
          clear hyj
          have HY := Lib.hid hy
          have HM := Lib.hid hm
          clear hy hm
          go_enter Try.func8, Try.ntmps8
          go_wp2_with fail
          refine (awake_any _).mono ?_
          rintro e w1 ⟨rfl, h1⟩
          have g1 : Below w.heap.size w w1 := h1
          go_wp2_with fail
          refine (take_as HT.out (by omega) _).mono ?_
          rintro e w2 ⟨rfl, h2⟩
          have g2 : Below w.heap.size w w2 := g1.trans (h2.mono g1.size)
          go_wp2_with fail
          refine (nat_as HNR.out (by omega) _).mono ?_
          rintro e w3 ⟨rfl, h3⟩
          have g3 : Below w.heap.size w w3 := g2.trans (h3.mono g2.size)
          go_wp2_with fail
          refine (takeInt_as HI.out (by omega) _).mono ?_
          rintro e w4 ⟨rfl, h4⟩
          have g4 : Below w.heap.size w w4 := g3.trans (h4.mono g3.size)
          go_wp2_with fail
          refine (int_as HIR.out (by omega) (by omega) _).mono ?_
          rintro e w5 ⟨rfl, h5⟩
          have g5 : Below w.heap.size w w5 := g4.trans (h5.mono g4.size)
          go_wp2_with fail
          refine (takeBytes_as HY.out (by omega) _).mono ?_
          rintro e w6 ⟨rfl, h6⟩
          have g6 : Below w.heap.size w w6 := g5.trans (h6.mono g5.size)
          go_wp2_with fail
          refine (bytes_any (bs t) (by omega) _).mono ?_
          rintro e w7 ⟨rfl, h7⟩
          have g7 : Below w.heap.size w w7 := g6.trans (h7.mono g6.size)
          rw [bs_list]
          go_wp2_with fail
          refine (takeNats_as HM.out (by omega) (.inr (by omega)) _).mono ?_
          rintro e w8 ⟨A, c, rfl, hrd, h8⟩
          have g8 : Below w.heap.size w w8 := g7.trans (h8.mono g7.size)
          go_wp2
          go_ret
          exact ⟨rfl, g8⟩
        · have hr1s : (bs r1).size ≤ 10000 := by rw [bs_size]; omega
          have hts : (bs t).size ≤ 10000 := by rw [bs_size]; omega
          have hbs : (bs (bytesB t)).size ≤ 10009 := by rw [bs_size]; unfold bytesB; have := natB_len9 (n := t.length) (by omega); simp only [List.length_append]; omega
          have hyj' : ((bs (bytesB t) ++ bs r1).toList == s.toList) = true := by rw [hyj, bs_of]; simp
          clear hyj
          have hr2s : (bs r2).size ≤ 10000 := by rw [bs_size]; omega
          have hls : (bs (listB l)).size ≤ 10000 := by rw [bs_size]; omega
          have hmj' : ((bs (listB l) ++ bs r2).toList == s.toList) = true := by rw [hmj, bs_of]; simp
          have HMZ := Lib.hid hmz
          have hll : l.length ≤ 1000000 := by omega
          clear hmj hmz
          have HY := Lib.hid hy
          have HM := Lib.hid hm
          clear hy hm
          go_enter Try.func8, Try.ntmps8
          go_wp2_with fail
          refine (awake_any _).mono ?_
          rintro e w1 ⟨rfl, h1⟩
          have g1 : Below w.heap.size w w1 := h1
          go_wp2_with fail
          refine (take_as HT.out (by omega) _).mono ?_
          rintro e w2 ⟨rfl, h2⟩
          have g2 : Below w.heap.size w w2 := g1.trans (h2.mono g1.size)
          go_wp2_with fail
          refine (nat_as HNR.out (by omega) _).mono ?_
          rintro e w3 ⟨rfl, h3⟩
          have g3 : Below w.heap.size w w3 := g2.trans (h3.mono g2.size)
          go_wp2_with fail
          refine (takeInt_as HI.out (by omega) _).mono ?_
          rintro e w4 ⟨rfl, h4⟩
          have g4 : Below w.heap.size w w4 := g3.trans (h4.mono g3.size)
          go_wp2_with fail
          refine (int_as HIR.out (by omega) (by omega) _).mono ?_
          rintro e w5 ⟨rfl, h5⟩
          have g5 : Below w.heap.size w w5 := g4.trans (h5.mono g4.size)
          go_wp2_with fail
          refine (takeBytes_as HY.out (by omega) _).mono ?_
          rintro e w6 ⟨rfl, h6⟩
          have g6 : Below w.heap.size w w6 := g5.trans (h6.mono g5.size)
          go_wp2_with fail
          refine (bytes_any (bs t) (by omega) _).mono ?_
          rintro e w7 ⟨rfl, h7⟩
          have g7 : Below w.heap.size w w7 := g6.trans (h7.mono g6.size)
          rw [bs_list]
          go_wp2_with fail
          refine (takeNats_as HM.out (by omega) (.inr (by omega)) _).mono ?_
          rintro e w8 ⟨A, c, rfl, hrd, h8⟩
          have g8 : Below w.heap.size w w8 := g7.trans (h8.mono g7.size)
          have HRD := Lib.hid hrd
          clear hrd
          go_wp2_with fail
          refine (nats_own HRD.out rfl hll HMZ.out (Below.refl _ _)).mono ?_
          rintro e w9 ⟨rfl, h9⟩
          have g9 : Below w.heap.size w w9 := g8.trans (h9.mono g8.size)
          go_wp2
          go_ret
          exact ⟨rfl, g9⟩

end Go.Proofs.Ytmboipoiglakoaa.V1
