/-
  Layer 1: the stage's theorem 'what is put is taken back' (VarintBack).
-/
import Derived.Test.YtmboipoiglakoaaV1h
namespace Go.Proofs.Ytmboipoiglakoaa.V1
open Go.RowKit Go.PlainAid

theorem cat_list (l : List UInt8) (rest : ByteArray) : (bs l ++ rest).data.toList = l ++ rest.data.toList := by
  rw [bs_append, bs_list]
theorem cat_size (l : List UInt8) (rest : ByteArray) : (bs l ++ rest).size = l.length + rest.size := by
  rw [bs_append, bs_size, List.length_append]; rfl

theorem takeBack {m : Nat} {rest : ByteArray} (hm : m ≤ 9223372036854775807) (hs : rest.size ≤ 140737488351232) (w : World) :
    Calls Try.prog 12 #[.string (bs (natB m) ++ rest)] w fun x w' => x = .returned (.tuple #[.int .i64 (m : Int), .string rest, .int .i64 0]) ∧ Below w.heap.size w w' := by
  have h9 := natB_len9 hm
  have := take_as (s := bs (natB m) ++ rest) (n := m) (r := rest.data.toList) (e := 0) (by rw [cat_list, take_put m _ hm]) (by rw [cat_size]; omega) w
  rw [bs_of] at this
  exact this
theorem intBack {n : Int} {rest : ByteArray} (hm : zig n ≤ 9223372036854775807) (hs : rest.size ≤ 140737488351232) (w : World) :
    Calls Try.prog 17 #[.string (bs (natB (zig n)) ++ rest)] w fun x w' => x = .returned (.tuple #[.int .i64 n, .string rest, .int .i64 0]) ∧ Below w.heap.size w w' := by
  have h9 := natB_len9 hm
  have := takeInt_as (s := bs (natB (zig n)) ++ rest) (n := n) (r := rest.data.toList) (e := 0) (by rw [cat_list, takeInt_ok (take_put _ _ hm), zag_zig]) (by rw [cat_size]; omega) w
  rw [bs_of] at this
  exact this
theorem bytesBack {t rest : ByteArray} (ht : t.size ≤ 140737488351232) (hs : rest.size ≤ 140737488351232) (w : World) :
    Calls Try.prog 19 #[.string (bs (bytesB t.data.toList) ++ rest)] w fun x w' => x = .returned (.tuple #[.string t, .string rest, .int .i64 0]) ∧ Below w.heap.size w w' := by
  have hl : t.data.toList.length = t.size := rfl
  have h9 := natB_len9 (n := t.data.toList.length) (by omega)
  have := takeBytes_as (s := bs (bytesB t.data.toList) ++ rest) (t := t.data.toList) (r := rest.data.toList) (e := 0) (by rw [cat_list, takeBytes_put _ _ (by omega)])
    (by rw [cat_size]; unfold bytesB; simp only [List.length_append]; omega) w
  rw [bs_of, bs_of] at this
  exact this
theorem listBack {l : List Nat} {rest : ByteArray} (hl : l.length ≤ 1000) (hz : ∀ n ∈ l, n ≤ 9223372036854775807) (hs : rest.size ≤ 140737488351232) (w : World) :
    Calls Try.prog 25 #[.string (bs (listB l) ++ rest)] w fun e w' => ∃ A c, e = .returned (.tuple #[.slice A l.length c, .string rest, .int .i64 0]) ∧ Rd w' A (ints l) ∧ Below w.heap.size w w' := by
  have h1 := flat_le9 l hz
  have h9 := natB_len9 (n := l.length) (by omega)
  have := takeNats_as (s := bs (listB l) ++ rest) (l := l) (r := rest.data.toList) (x := 0) (by rw [cat_list, takeNats_put _ _ hz (by omega)])
    (by rw [cat_size]; unfold listB; simp only [List.length_append]; omega)
    (.inl (by rw [cat_list]; unfold listB; rw [List.append_assoc, take_put _ _ (by omega)]; show l.length ≤ 1000000; omega)) w
  rw [bs_of] at this
  exact this

theorem intR_in {n : Int} (h1 : -4611686018427387904 ≤ n) (h2 : n ≤ 4611686018427387903) : intR n = (natB (zig n), 0) := by
  unfold intR; rw [if_neg (by omega)]
theorem intR_out {n : Int} (h : ¬ (-4611686018427387904 ≤ n ∧ n ≤ 4611686018427387903)) : intR n = ([], 1) := by
  unfold intR; rw [if_pos (by omega)]
theorem zig_le {n : Int} (h1 : -4611686018427387904 ≤ n) (h2 : n ≤ 4611686018427387903) : zig n ≤ 9223372036854775807 := by
  unfold zig; split <;> omega

theorem nats_as {A : Option Addr} {n cap : Nat} {zs : List Int} {w w' : World} {l : List UInt8} {x : Int} (h : natsR zs = (l, x)) (hr : Rd w A (zs.map (Value.int .i64))) (hn : zs.length = n) (hle : n ≤ 1000000)
    (hz : ∀ z ∈ zs, z ≤ 9223372036854775807) (hb : Below w.heap.size w w') :
    Calls Try.prog 23 #[.slice A n cap] w' fun e w'' => e = .returned (.tuple #[.string (bs l), .int .i64 x]) ∧ Below w'.heap.size w' w'' := by
  have := nats_any A n cap zs w' (hr.keep hb) hn hle hz
  rw [h] at this
  exact this

/-- A list of numbers none of which is below 0 is a list of naturals. -/
theorem nats_of : ∀ (zs : List Int), (∃ l : List Nat, zs = l.map fun (n : Nat) => (n : Int)) ∨ natsR zs = ([], 1) := by
  intro zs
  by_cases h : ∀ z ∈ zs, 0 ≤ z
  · left
    refine ⟨zs.map Int.toNat, ?_⟩
    rw [List.map_map]
    induction zs with
    | nil => rfl
    | cons z zs ih =>
      simp only [List.map_cons]
      rw [← ih (fun y hy => h y (by simp [hy]))]
      have := h z (by simp)
      simp only [Function.comp]
      rw [Int.toNat_of_nonneg this]
  · right
    unfold natsR
    rw [if_neg (by simpa using h)]

set_option maxRecDepth 100000 in
set_option maxHeartbeats 400000 in
theorem lawBack_long (w : World) (n : Int) (t : ByteArray) (a : Option Addr) (len cap : Nat) (rest : ByteArray) (h : 1000 < len) (hlc : len ≤ 9223372036854775807) :
    Calls Try.prog 7 #[.int .i64 n, .string t, .slice a len cap, .string rest] w fun e w' => e = .returned (.bool true) ∧ Below w.heap.size w w' := by
  go_enter Try.func7, Try.ntmps7
  go_wp2_with fail
  refine (awake_any _).mono ?_
  rintro e w1 ⟨rfl, hb1⟩
  go_wp2
  go_ret
  exact ⟨rfl, hb1⟩

set_option maxRecDepth 100000 in
set_option maxHeartbeats 1000000 in
theorem lawBack_000 (w : World) (n : Int) (h1 : -9223372036854775808 ≤ n) (hn : n ≤ 9223372036854775807) (t : ByteArray) (ht : t.size ≤ 140737488351232) (a : Option Addr) (len cap : Nat) (rest : ByteArray) (hs : rest.size ≤ 140737488351232) (hlen : len ≤ 1000)
    (hnat : n < 0) (hint : intR n = ([], 1)) (zs : List Int) (hl : zs.length = len) (hz : ∀ z ∈ zs, z ≤ 9223372036854775807) (hr : Rd w a (zs.map (Value.int .i64))) (hbad : natsR zs = ([], 1)) :
    Calls Try.prog 7 #[.int .i64 n, .string t, .slice a len cap, .string rest] w fun e w' => e = .returned (.bool true) ∧ Below w.heap.size w w' := by
  have HN := Lib.hid (natR_neg hnat)
  have HI := Lib.hid hint
  clear hint
  have hlt : t.data.toList.length = t.size := rfl
  have hbs : (bs (bytesB t.data.toList)).size ≤ 140737488351241 := by rw [bs_size]; unfold bytesB; have := natB_len9 (n := t.data.toList.length) (by omega); simp only [List.length_append]; omega
  have HR := Lib.hid hr
  have HZ := Lib.hid hz
  clear hr hz hlt
  subst hl
  have HLR := Lib.hid hbad
  clear hbad
  go_enter Try.func7, Try.ntmps7
  go_wp2_with fail
  refine (awake_any _).mono ?_
  rintro e w1 ⟨rfl, h1⟩
  have g1 : Below w.heap.size w w1 := h1
  go_wp2_with fail
  refine (nat_as HN.out (by omega) _).mono ?_
  rintro e w2 ⟨rfl, h2⟩
  have g2 : Below w.heap.size w w2 := g1.trans (h2.mono g1.size)
  go_wp2_with fail
  refine (int_as HI.out (by omega) (by omega) _).mono ?_
  rintro e w3 ⟨rfl, h3⟩
  have g3 : Below w.heap.size w w3 := g2.trans (h3.mono g2.size)
  go_wp2_with fail
  refine (bytes_any t ht _).mono ?_
  rintro e w4 ⟨rfl, h4⟩
  have g4 : Below w.heap.size w w4 := g3.trans (h4.mono g3.size)
  go_wp2_with fail
  refine (bytesBack ht hs _).mono ?_
  rintro e w5 ⟨rfl, h5⟩
  have g5 : Below w.heap.size w w5 := g4.trans (h5.mono g4.size)
  go_wp2_with fail
  refine (nats_as HLR.out HR.out rfl (by omega) HZ.out g5).mono ?_
  rintro e w6 ⟨rfl, h6⟩
  have g6 : Below w.heap.size w w6 := g5.trans (h6.mono g5.size)
  go_wp2
  go_ret
  exact ⟨rfl, g6⟩

set_option maxRecDepth 100000 in
set_option maxHeartbeats 1000000 in
theorem lawBack_001 (w : World) (n : Int) (h1 : -9223372036854775808 ≤ n) (hn : n ≤ 9223372036854775807) (t : ByteArray) (ht : t.size ≤ 140737488351232) (a : Option Addr) (len cap : Nat) (rest : ByteArray) (hs : rest.size ≤ 140737488351232) (hlen : len ≤ 1000)
    (hnat : n < 0) (hint : intR n = ([], 1)) (l : List Nat) (hl : l.length = len) (hz : ∀ k ∈ l, k ≤ 9223372036854775807) (hr : Rd w a (ints l)) :
    Calls Try.prog 7 #[.int .i64 n, .string t, .slice a len cap, .string rest] w fun e w' => e = .returned (.bool true) ∧ Below w.heap.size w w' := by
  have HN := Lib.hid (natR_neg hnat)
  have HI := Lib.hid hint
  clear hint
  have hlt : t.data.toList.length = t.size := rfl
  have hbs : (bs (bytesB t.data.toList)).size ≤ 140737488351241 := by rw [bs_size]; unfold bytesB; have := natB_len9 (n := t.data.toList.length) (by omega); simp only [List.length_append]; omega
  have HR := Lib.hid hr
  have HZ := Lib.hid hz
  clear hr hz hlt
  subst hl
  have hls : (bs (listB l)).size ≤ 9009 := by rw [bs_size]; unfold listB; have := flat_le9 l HZ.out; have := natB_len9 (n := l.length) (by omega); simp only [List.length_append]; omega
  have HLR := Lib.hid (natsR_nat l)
  go_enter Try.func7, Try.ntmps7
  go_wp2_with fail
  refine (awake_any _).mono ?_
  rintro e w1 ⟨rfl, h1⟩
  have g1 : Below w.heap.size w w1 := h1
  go_wp2_with fail
  refine (nat_as HN.out (by omega) _).mono ?_
  rintro e w2 ⟨rfl, h2⟩
  have g2 : Below w.heap.size w w2 := g1.trans (h2.mono g1.size)
  go_wp2_with fail
  refine (int_as HI.out (by omega) (by omega) _).mono ?_
  rintro e w3 ⟨rfl, h3⟩
  have g3 : Below w.heap.size w w3 := g2.trans (h3.mono g2.size)
  go_wp2_with fail
  refine (bytes_any t ht _).mono ?_
  rintro e w4 ⟨rfl, h4⟩
  have g4 : Below w.heap.size w w4 := g3.trans (h4.mono g3.size)
  go_wp2_with fail
  refine (bytesBack ht hs _).mono ?_
  rintro e w5 ⟨rfl, h5⟩
  have g5 : Below w.heap.size w w5 := g4.trans (h5.mono g4.size)
  go_wp2_with fail
  refine (nats_own HR.out rfl (by omega) HZ.out g5).mono ?_
  rintro e w6 ⟨rfl, h6⟩
  have g6 : Below w.heap.size w w6 := g5.trans (h6.mono g5.size)
  go_wp2_with fail
  refine (listBack hlen HZ.out hs _).mono ?_
  rintro e w7 ⟨A, c, rfl, hrd, h7⟩
  have g7 : Below w.heap.size w w7 := g6.trans (h7.mono g6.size)
  have HRD := Lib.hid hrd
  clear hrd
  go_wp2_with fail
  refine (same_own HRD.out (HR.out.keep g7) rfl (by omega) (Below.refl _ _)).mono ?_
  rintro e w8 ⟨rfl, h8⟩
  have g8 : Below w.heap.size w w8 := g7.trans (h8.mono g7.size)
  go_wp2
  go_ret
  exact ⟨rfl, g8⟩

set_option maxRecDepth 100000 in
set_option maxHeartbeats 1000000 in
theorem lawBack_010 (w : World) (n : Int) (h1 : -9223372036854775808 ≤ n) (hn : n ≤ 9223372036854775807) (t : ByteArray) (ht : t.size ≤ 140737488351232) (a : Option Addr) (len cap : Nat) (rest : ByteArray) (hs : rest.size ≤ 140737488351232) (hlen : len ≤ 1000)
    (hnat : n < 0) (hi1 : -4611686018427387904 ≤ n) (hi2 : n ≤ 4611686018427387903) (zs : List Int) (hl : zs.length = len) (hz : ∀ z ∈ zs, z ≤ 9223372036854775807) (hr : Rd w a (zs.map (Value.int .i64))) (hbad : natsR zs = ([], 1)) :
    Calls Try.prog 7 #[.int .i64 n, .string t, .slice a len cap, .string rest] w fun e w' => e = .returned (.bool true) ∧ Below w.heap.size w w' := by
  have HN := Lib.hid (natR_neg hnat)
  have HI := Lib.hid (intR_in hi1 hi2)
  have hzi := zig_le hi1 hi2
  have his : (bs (natB (zig n))).size ≤ 9 := natB_len9 hzi
  have HZI := Lib.hid hzi
  clear hzi
  have hlt : t.data.toList.length = t.size := rfl
  have hbs : (bs (bytesB t.data.toList)).size ≤ 140737488351241 := by rw [bs_size]; unfold bytesB; have := natB_len9 (n := t.data.toList.length) (by omega); simp only [List.length_append]; omega
  have HR := Lib.hid hr
  have HZ := Lib.hid hz
  clear hr hz hlt
  subst hl
  have HLR := Lib.hid hbad
  clear hbad
  go_enter Try.func7, Try.ntmps7
  go_wp2_with fail
  refine (awake_any _).mono ?_
  rintro e w1 ⟨rfl, h1⟩
  have g1 : Below w.heap.size w w1 := h1
  go_wp2_with fail
  refine (nat_as HN.out (by omega) _).mono ?_
  rintro e w2 ⟨rfl, h2⟩
  have g2 : Below w.heap.size w w2 := g1.trans (h2.mono g1.size)
  go_wp2_with fail
  refine (int_as HI.out (by omega) (by omega) _).mono ?_
  rintro e w3 ⟨rfl, h3⟩
  have g3 : Below w.heap.size w w3 := g2.trans (h3.mono g2.size)
  go_wp2_with fail
  refine (intBack HZI.out hs _).mono ?_
  rintro e w4 ⟨rfl, h4⟩
  have g4 : Below w.heap.size w w4 := g3.trans (h4.mono g3.size)
  go_wp2_with fail
  refine (bytes_any t ht _).mono ?_
  rintro e w5 ⟨rfl, h5⟩
  have g5 : Below w.heap.size w w5 := g4.trans (h5.mono g4.size)
  go_wp2_with fail
  refine (bytesBack ht hs _).mono ?_
  rintro e w6 ⟨rfl, h6⟩
  have g6 : Below w.heap.size w w6 := g5.trans (h6.mono g5.size)
  go_wp2_with fail
  refine (nats_as HLR.out HR.out rfl (by omega) HZ.out g6).mono ?_
  rintro e w7 ⟨rfl, h7⟩
  have g7 : Below w.heap.size w w7 := g6.trans (h7.mono g6.size)
  go_wp2
  go_ret
  exact ⟨rfl, g7⟩

set_option maxRecDepth 100000 in
set_option maxHeartbeats 1000000 in
theorem lawBack_011 (w : World) (n : Int) (h1 : -9223372036854775808 ≤ n) (hn : n ≤ 9223372036854775807) (t : ByteArray) (ht : t.size ≤ 140737488351232) (a : Option Addr) (len cap : Nat) (rest : ByteArray) (hs : rest.size ≤ 140737488351232) (hlen : len ≤ 1000)
    (hnat : n < 0) (hi1 : -4611686018427387904 ≤ n) (hi2 : n ≤ 4611686018427387903) (l : List Nat) (hl : l.length = len) (hz : ∀ k ∈ l, k ≤ 9223372036854775807) (hr : Rd w a (ints l)) :
    Calls Try.prog 7 #[.int .i64 n, .string t, .slice a len cap, .string rest] w fun e w' => e = .returned (.bool true) ∧ Below w.heap.size w w' := by
  have HN := Lib.hid (natR_neg hnat)
  have HI := Lib.hid (intR_in hi1 hi2)
  have hzi := zig_le hi1 hi2
  have his : (bs (natB (zig n))).size ≤ 9 := natB_len9 hzi
  have HZI := Lib.hid hzi
  clear hzi
  have hlt : t.data.toList.length = t.size := rfl
  have hbs : (bs (bytesB t.data.toList)).size ≤ 140737488351241 := by rw [bs_size]; unfold bytesB; have := natB_len9 (n := t.data.toList.length) (by omega); simp only [List.length_append]; omega
  have HR := Lib.hid hr
  have HZ := Lib.hid hz
  clear hr hz hlt
  subst hl
  have hls : (bs (listB l)).size ≤ 9009 := by rw [bs_size]; unfold listB; have := flat_le9 l HZ.out; have := natB_len9 (n := l.length) (by omega); simp only [List.length_append]; omega
  have HLR := Lib.hid (natsR_nat l)
  go_enter Try.func7, Try.ntmps7
  go_wp2_with fail
  refine (awake_any _).mono ?_
  rintro e w1 ⟨rfl, h1⟩
  have g1 : Below w.heap.size w w1 := h1
  go_wp2_with fail
  refine (nat_as HN.out (by omega) _).mono ?_
  rintro e w2 ⟨rfl, h2⟩
  have g2 : Below w.heap.size w w2 := g1.trans (h2.mono g1.size)
  go_wp2_with fail
  refine (int_as HI.out (by omega) (by omega) _).mono ?_
  rintro e w3 ⟨rfl, h3⟩
  have g3 : Below w.heap.size w w3 := g2.trans (h3.mono g2.size)
  go_wp2_with fail
  refine (intBack HZI.out hs _).mono ?_
  rintro e w4 ⟨rfl, h4⟩
  have g4 : Below w.heap.size w w4 := g3.trans (h4.mono g3.size)
  go_wp2_with fail
  refine (bytes_any t ht _).mono ?_
  rintro e w5 ⟨rfl, h5⟩
  have g5 : Below w.heap.size w w5 := g4.trans (h5.mono g4.size)
  go_wp2_with fail
  refine (bytesBack ht hs _).mono ?_
  rintro e w6 ⟨rfl, h6⟩
  have g6 : Below w.heap.size w w6 := g5.trans (h6.mono g5.size)
  go_wp2_with fail
  refine (nats_own HR.out rfl (by omega) HZ.out g6).mono ?_
  rintro e w7 ⟨rfl, h7⟩
  have g7 : Below w.heap.size w w7 := g6.trans (h7.mono g6.size)
  go_wp2_with fail
  refine (listBack hlen HZ.out hs _).mono ?_
  rintro e w8 ⟨A, c, rfl, hrd, h8⟩
  have g8 : Below w.heap.size w w8 := g7.trans (h8.mono g7.size)
  have HRD := Lib.hid hrd
  clear hrd
  go_wp2_with fail
  refine (same_own HRD.out (HR.out.keep g8) rfl (by omega) (Below.refl _ _)).mono ?_
  rintro e w9 ⟨rfl, h9⟩
  have g9 : Below w.heap.size w w9 := g8.trans (h9.mono g8.size)
  go_wp2
  go_ret
  exact ⟨rfl, g9⟩

set_option maxRecDepth 100000 in
set_option maxHeartbeats 1000000 in
theorem lawBack_100 (w : World) (n : Int) (h1 : -9223372036854775808 ≤ n) (hn : n ≤ 9223372036854775807) (t : ByteArray) (ht : t.size ≤ 140737488351232) (a : Option Addr) (len cap : Nat) (rest : ByteArray) (hs : rest.size ≤ 140737488351232) (hlen : len ≤ 1000)
    (hnat : 0 ≤ n) (hint : intR n = ([], 1)) (zs : List Int) (hl : zs.length = len) (hz : ∀ z ∈ zs, z ≤ 9223372036854775807) (hr : Rd w a (zs.map (Value.int .i64))) (hbad : natsR zs = ([], 1)) :
    Calls Try.prog 7 #[.int .i64 n, .string t, .slice a len cap, .string rest] w fun e w' => e = .returned (.bool true) ∧ Below w.heap.size w w' := by
  obtain ⟨m, rfl⟩ := Int.eq_ofNat_of_zero_le hnat
  have HN := Lib.hid (natR_nat m)
  have hms : (bs (natB m)).size ≤ 9 := natB_len9 (by omega)
  have HI := Lib.hid hint
  clear hint
  have hlt : t.data.toList.length = t.size := rfl
  have hbs : (bs (bytesB t.data.toList)).size ≤ 140737488351241 := by rw [bs_size]; unfold bytesB; have := natB_len9 (n := t.data.toList.length) (by omega); simp only [List.length_append]; omega
  have HR := Lib.hid hr
  have HZ := Lib.hid hz
  clear hr hz hlt
  subst hl
  have HLR := Lib.hid hbad
  clear hbad
  go_enter Try.func7, Try.ntmps7
  go_wp2_with fail
  refine (awake_any _).mono ?_
  rintro e w1 ⟨rfl, h1⟩
  have g1 : Below w.heap.size w w1 := h1
  go_wp2_with fail
  refine (nat_as HN.out (by omega) _).mono ?_
  rintro e w2 ⟨rfl, h2⟩
  have g2 : Below w.heap.size w w2 := g1.trans (h2.mono g1.size)
  go_wp2_with fail
  refine (takeBack (by omega) hs _).mono ?_
  rintro e w3 ⟨rfl, h3⟩
  have g3 : Below w.heap.size w w3 := g2.trans (h3.mono g2.size)
  go_wp2_with fail
  refine (int_as HI.out (by omega) (by omega) _).mono ?_
  rintro e w4 ⟨rfl, h4⟩
  have g4 : Below w.heap.size w w4 := g3.trans (h4.mono g3.size)
  go_wp2_with fail
  refine (bytes_any t ht _).mono ?_
  rintro e w5 ⟨rfl, h5⟩
  have g5 : Below w.heap.size w w5 := g4.trans (h5.mono g4.size)
  go_wp2_with fail
  refine (bytesBack ht hs _).mono ?_
  rintro e w6 ⟨rfl, h6⟩
  have g6 : Below w.heap.size w w6 := g5.trans (h6.mono g5.size)
  go_wp2_with fail
  refine (nats_as HLR.out HR.out rfl (by omega) HZ.out g6).mono ?_
  rintro e w7 ⟨rfl, h7⟩
  have g7 : Below w.heap.size w w7 := g6.trans (h7.mono g6.size)
  go_wp2
  go_ret
  exact ⟨rfl, g7⟩

set_option maxRecDepth 100000 in
set_option maxHeartbeats 1000000 in
theorem lawBack_101 (w : World) (n : Int) (h1 : -9223372036854775808 ≤ n) (hn : n ≤ 9223372036854775807) (t : ByteArray) (ht : t.size ≤ 140737488351232) (a : Option Addr) (len cap : Nat) (rest : ByteArray) (hs : rest.size ≤ 140737488351232) (hlen : len ≤ 1000)
    (hnat : 0 ≤ n) (hint : intR n = ([], 1)) (l : List Nat) (hl : l.length = len) (hz : ∀ k ∈ l, k ≤ 9223372036854775807) (hr : Rd w a (ints l)) :
    Calls Try.prog 7 #[.int .i64 n, .string t, .slice a len cap, .string rest] w fun e w' => e = .returned (.bool true) ∧ Below w.heap.size w w' := by
  obtain ⟨m, rfl⟩ := Int.eq_ofNat_of_zero_le hnat
  have HN := Lib.hid (natR_nat m)
  have hms : (bs (natB m)).size ≤ 9 := natB_len9 (by omega)
  have HI := Lib.hid hint
  clear hint
  have hlt : t.data.toList.length = t.size := rfl
  have hbs : (bs (bytesB t.data.toList)).size ≤ 140737488351241 := by rw [bs_size]; unfold bytesB; have := natB_len9 (n := t.data.toList.length) (by omega); simp only [List.length_append]; omega
  have HR := Lib.hid hr
  have HZ := Lib.hid hz
  clear hr hz hlt
  subst hl
  have hls : (bs (listB l)).size ≤ 9009 := by rw [bs_size]; unfold listB; have := flat_le9 l HZ.out; have := natB_len9 (n := l.length) (by omega); simp only [List.length_append]; omega
  have HLR := Lib.hid (natsR_nat l)
  go_enter Try.func7, Try.ntmps7
  go_wp2_with fail
  refine (awake_any _).mono ?_
  rintro e w1 ⟨rfl, h1⟩
  have g1 : Below w.heap.size w w1 := h1
  go_wp2_with fail
  refine (nat_as HN.out (by omega) _).mono ?_
  rintro e w2 ⟨rfl, h2⟩
  have g2 : Below w.heap.size w w2 := g1.trans (h2.mono g1.size)
  go_wp2_with fail
  refine (takeBack (by omega) hs _).mono ?_
  rintro e w3 ⟨rfl, h3⟩
  have g3 : Below w.heap.size w w3 := g2.trans (h3.mono g2.size)
  go_wp2_with fail
  refine (int_as HI.out (by omega) (by omega) _).mono ?_
  rintro e w4 ⟨rfl, h4⟩
  have g4 : Below w.heap.size w w4 := g3.trans (h4.mono g3.size)
  go_wp2_with fail
  refine (bytes_any t ht _).mono ?_
  rintro e w5 ⟨rfl, h5⟩
  have g5 : Below w.heap.size w w5 := g4.trans (h5.mono g4.size)
  go_wp2_with fail
  refine (bytesBack ht hs _).mono ?_
  rintro e w6 ⟨rfl, h6⟩
  have g6 : Below w.heap.size w w6 := g5.trans (h6.mono g5.size)
  go_wp2_with fail
  refine (nats_own HR.out rfl (by omega) HZ.out g6).mono ?_
  rintro e w7 ⟨rfl, h7⟩
  have g7 : Below w.heap.size w w7 := g6.trans (h7.mono g6.size)
  go_wp2_with fail
  refine (listBack hlen HZ.out hs _).mono ?_
  rintro e w8 ⟨A, c, rfl, hrd, h8⟩
  have g8 : Below w.heap.size w w8 := g7.trans (h8.mono g7.size)
  have HRD := Lib.hid hrd
  clear hrd
  go_wp2_with fail
  refine (same_own HRD.out (HR.out.keep g8) rfl (by omega) (Below.refl _ _)).mono ?_
  rintro e w9 ⟨rfl, h9⟩
  have g9 : Below w.heap.size w w9 := g8.trans (h9.mono g8.size)
  go_wp2
  go_ret
  exact ⟨rfl, g9⟩

set_option maxRecDepth 100000 in
set_option maxHeartbeats 1000000 in
theorem lawBack_110 (w : World) (n : Int) (h1 : -9223372036854775808 ≤ n) (hn : n ≤ 9223372036854775807) (t : ByteArray) (ht : t.size ≤ 140737488351232) (a : Option Addr) (len cap : Nat) (rest : ByteArray) (hs : rest.size ≤ 140737488351232) (hlen : len ≤ 1000)
    (hnat : 0 ≤ n) (hi1 : -4611686018427387904 ≤ n) (hi2 : n ≤ 4611686018427387903) (zs : List Int) (hl : zs.length = len) (hz : ∀ z ∈ zs, z ≤ 9223372036854775807) (hr : Rd w a (zs.map (Value.int .i64))) (hbad : natsR zs = ([], 1)) :
    Calls Try.prog 7 #[.int .i64 n, .string t, .slice a len cap, .string rest] w fun e w' => e = .returned (.bool true) ∧ Below w.heap.size w w' := by
  obtain ⟨m, rfl⟩ := Int.eq_ofNat_of_zero_le hnat
  have HN := Lib.hid (natR_nat m)
  have hms : (bs (natB m)).size ≤ 9 := natB_len9 (by omega)
  have HI := Lib.hid (intR_in hi1 hi2)
  have hzi := zig_le hi1 hi2
  have his : (bs (natB (zig (m : Int)))).size ≤ 9 := natB_len9 hzi
  have HZI := Lib.hid hzi
  clear hzi
  have hlt : t.data.toList.length = t.size := rfl
  have hbs : (bs (bytesB t.data.toList)).size ≤ 140737488351241 := by rw [bs_size]; unfold bytesB; have := natB_len9 (n := t.data.toList.length) (by omega); simp only [List.length_append]; omega
  have HR := Lib.hid hr
  have HZ := Lib.hid hz
  clear hr hz hlt
  subst hl
  have HLR := Lib.hid hbad
  clear hbad
  go_enter Try.func7, Try.ntmps7
  go_wp2_with fail
  refine (awake_any _).mono ?_
  rintro e w1 ⟨rfl, h1⟩
  have g1 : Below w.heap.size w w1 := h1
  go_wp2_with fail
  refine (nat_as HN.out (by omega) _).mono ?_
  rintro e w2 ⟨rfl, h2⟩
  have g2 : Below w.heap.size w w2 := g1.trans (h2.mono g1.size)
  go_wp2_with fail
  refine (takeBack (by omega) hs _).mono ?_
  rintro e w3 ⟨rfl, h3⟩
  have g3 : Below w.heap.size w w3 := g2.trans (h3.mono g2.size)
  go_wp2_with fail
  refine (int_as HI.out (by omega) (by omega) _).mono ?_
  rintro e w4 ⟨rfl, h4⟩
  have g4 : Below w.heap.size w w4 := g3.trans (h4.mono g3.size)
  go_wp2_with fail
  refine (intBack HZI.out hs _).mono ?_
  rintro e w5 ⟨rfl, h5⟩
  have g5 : Below w.heap.size w w5 := g4.trans (h5.mono g4.size)
  go_wp2_with fail
  refine (bytes_any t ht _).mono ?_
  rintro e w6 ⟨rfl, h6⟩
  have g6 : Below w.heap.size w w6 := g5.trans (h6.mono g5.size)
  go_wp2_with fail
  refine (bytesBack ht hs _).mono ?_
  rintro e w7 ⟨rfl, h7⟩
  have g7 : Below w.heap.size w w7 := g6.trans (h7.mono g6.size)
  go_wp2_with fail
  refine (nats_as HLR.out HR.out rfl (by omega) HZ.out g7).mono ?_
  rintro e w8 ⟨rfl, h8⟩
  have g8 : Below w.heap.size w w8 := g7.trans (h8.mono g7.size)
  go_wp2
  go_ret
  exact ⟨rfl, g8⟩

set_option maxRecDepth 100000 in
set_option maxHeartbeats 1000000 in
theorem lawBack_111 (w : World) (n : Int) (h1 : -9223372036854775808 ≤ n) (hn : n ≤ 9223372036854775807) (t : ByteArray) (ht : t.size ≤ 140737488351232) (a : Option Addr) (len cap : Nat) (rest : ByteArray) (hs : rest.size ≤ 140737488351232) (hlen : len ≤ 1000)
    (hnat : 0 ≤ n) (hi1 : -4611686018427387904 ≤ n) (hi2 : n ≤ 4611686018427387903) (l : List Nat) (hl : l.length = len) (hz : ∀ k ∈ l, k ≤ 9223372036854775807) (hr : Rd w a (ints l)) :
    Calls Try.prog 7 #[.int .i64 n, .string t, .slice a len cap, .string rest] w fun e w' => e = .returned (.bool true) ∧ Below w.heap.size w w' := by
  obtain ⟨m, rfl⟩ := Int.eq_ofNat_of_zero_le hnat
  have HN := Lib.hid (natR_nat m)
  have hms : (bs (natB m)).size ≤ 9 := natB_len9 (by omega)
  have HI := Lib.hid (intR_in hi1 hi2)
  have hzi := zig_le hi1 hi2
  have his : (bs (natB (zig (m : Int)))).size ≤ 9 := natB_len9 hzi
  have HZI := Lib.hid hzi
  clear hzi
  have hlt : t.data.toList.length = t.size := rfl
  have hbs : (bs (bytesB t.data.toList)).size ≤ 140737488351241 := by rw [bs_size]; unfold bytesB; have := natB_len9 (n := t.data.toList.length) (by omega); simp only [List.length_append]; omega
  have HR := Lib.hid hr
  have HZ := Lib.hid hz
  clear hr hz hlt
  subst hl
  have hls : (bs (listB l)).size ≤ 9009 := by rw [bs_size]; unfold listB; have := flat_le9 l HZ.out; have := natB_len9 (n := l.length) (by omega); simp only [List.length_append]; omega
  have HLR := Lib.hid (natsR_nat l)
  go_enter Try.func7, Try.ntmps7
  go_wp2_with fail
  refine (awake_any _).mono ?_
  rintro e w1 ⟨rfl, h1⟩
  have g1 : Below w.heap.size w w1 := h1
  go_wp2_with fail
  refine (nat_as HN.out (by omega) _).mono ?_
  rintro e w2 ⟨rfl, h2⟩
  have g2 : Below w.heap.size w w2 := g1.trans (h2.mono g1.size)
  go_wp2_with fail
  refine (takeBack (by omega) hs _).mono ?_
  rintro e w3 ⟨rfl, h3⟩
  have g3 : Below w.heap.size w w3 := g2.trans (h3.mono g2.size)
  go_wp2_with fail
  refine (int_as HI.out (by omega) (by omega) _).mono ?_
  rintro e w4 ⟨rfl, h4⟩
  have g4 : Below w.heap.size w w4 := g3.trans (h4.mono g3.size)
  go_wp2_with fail
  refine (intBack HZI.out hs _).mono ?_
  rintro e w5 ⟨rfl, h5⟩
  have g5 : Below w.heap.size w w5 := g4.trans (h5.mono g4.size)
  go_wp2_with fail
  refine (bytes_any t ht _).mono ?_
  rintro e w6 ⟨rfl, h6⟩
  have g6 : Below w.heap.size w w6 := g5.trans (h6.mono g5.size)
  go_wp2_with fail
  refine (bytesBack ht hs _).mono ?_
  rintro e w7 ⟨rfl, h7⟩
  have g7 : Below w.heap.size w w7 := g6.trans (h7.mono g6.size)
  go_wp2_with fail
  refine (nats_own HR.out rfl (by omega) HZ.out g7).mono ?_
  rintro e w8 ⟨rfl, h8⟩
  have g8 : Below w.heap.size w w8 := g7.trans (h8.mono g7.size)
  go_wp2_with fail
  refine (listBack hlen HZ.out hs _).mono ?_
  rintro e w9 ⟨A, c, rfl, hrd, h9⟩
  have g9 : Below w.heap.size w w9 := g8.trans (h9.mono g8.size)
  have HRD := Lib.hid hrd
  clear hrd
  go_wp2_with fail
  refine (same_own HRD.out (HR.out.keep g9) rfl (by omega) (Below.refl _ _)).mono ?_
  rintro e w10 ⟨rfl, h10⟩
  have g10 : Below w.heap.size w w10 := g9.trans (h10.mono g9.size)
  go_wp2
  go_ret
  exact ⟨rfl, g10⟩

theorem lawBack (w : World) (n : Int) (h1 : -9223372036854775808 ≤ n) (hn : n ≤ 9223372036854775807) (t : ByteArray) (ht : t.size ≤ 140737488351232) (a : Option Addr) (len cap : Nat) (zs : List Int) (hrow : IsRow .i64 w a len cap zs) (_ : cap * 8 ≤ 140737488351232)
    (rest : ByteArray) (hs : rest.size ≤ 140737488351232) :
    Calls Try.prog 7 #[.int .i64 n, .string t, .slice a len cap, .string rest] w fun e w' => e = .returned (.bool true) ∧ Below w.heap.size w w' := by
  obtain ⟨hr, hl, hw⟩ := Rd.of_row hrow
  have hlc : len ≤ 9223372036854775807 := by
    rcases hrow with ⟨_, h, _⟩ | ⟨_, _, h, _⟩ <;> omega
  have hz2 : ∀ z ∈ zs.take len, z ≤ 9223372036854775807 := fun z hz => (wf_i64 (hw z hz)).2
  generalize zs.take len = l at hr hl hw hz2
  by_cases hbig : 1000 < len
  · exact lawBack_long w n t a len cap rest hbig hlc
  have hlen : len ≤ 1000 := by omega
  have hnat : n < 0 ∨ 0 ≤ n := by omega
  have hint : intR n = ([], 1) ∨ (-4611686018427387904 ≤ n ∧ n ≤ 4611686018427387903) := by
    by_cases h : -4611686018427387904 ≤ n ∧ n ≤ 4611686018427387903
    · exact .inr h
    · exact .inl (intR_out h)
  have nn : ∀ k : List Nat, l = (k.map fun (n : Nat) => (n : Int)) → (∀ j ∈ k, j ≤ 9223372036854775807) ∧ Rd w a (ints k) ∧ k.length = len := by
    intro k hk
    subst hk
    refine ⟨fun j hj => ?_, by rw [ints_eq]; exact hr, by simpa using hl⟩
    have := hz2 (j : Int) (List.mem_map.2 ⟨j, hj, rfl⟩)
    omega
  rcases nats_of l with ⟨k, hk⟩ | hbad
  · obtain ⟨k1, k2, k3⟩ := nn k hk
    rcases hnat with hnat | hnat <;> rcases hint with hint | ⟨hi1, hi2⟩
    · exact lawBack_001 w n h1 hn t ht a len cap rest hs hlen hnat hint k k3 k1 k2
    · exact lawBack_011 w n h1 hn t ht a len cap rest hs hlen hnat hi1 hi2 k k3 k1 k2
    · exact lawBack_101 w n h1 hn t ht a len cap rest hs hlen hnat hint k k3 k1 k2
    · exact lawBack_111 w n h1 hn t ht a len cap rest hs hlen hnat hi1 hi2 k k3 k1 k2
  · rcases hnat with hnat | hnat <;> rcases hint with hint | ⟨hi1, hi2⟩
    · exact lawBack_000 w n h1 hn t ht a len cap rest hs hlen hnat hint l hl hz2 hr hbad
    · exact lawBack_010 w n h1 hn t ht a len cap rest hs hlen hnat hi1 hi2 l hl hz2 hr hbad
    · exact lawBack_100 w n h1 hn t ht a len cap rest hs hlen hnat hint l hl hz2 hr hbad
    · exact lawBack_110 w n h1 hn t ht a len cap rest hs hlen hnat hi1 hi2 l hl hz2 hr hbad

end Go.Proofs.Ytmboipoiglakoaa.V1
